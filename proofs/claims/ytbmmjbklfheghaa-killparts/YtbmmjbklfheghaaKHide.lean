/- kill.isSeat, hides, stateOf, hiders by contracts. -/
import Derived.Test.YtbmmjbklfheghaaKRef
import Derived.Test.YtbmmjbklfheghaaKFind
import Derived.Test.YtbmmjbklfheghaaGFarOne
namespace Go.Proofs.Ytbmmjbklfheghaa.Kll
set_option linter.unusedVariables false
set_option maxRecDepth 100000
open Go.RowKit Go.Shelf
open Go.Proofs.Ytbmmjbklfheghaa.Ven (Seat Pole Ven VenAt venV seatV poleV seatC poleC Box mayB mixed Sl SeatAt Cells below_alloc ret_bool ret_int BelowOf wp_region_quiet_below Calls.below_of same_world coordB standsB row_slice row_next info3 intC)
open Go.Proofs.Ytbmmjbklfheghaa.Geo (nearS thoseN thoseN_succ thoseN_le thoseN_zero farI sqI far_any)
open Go.Proofs.Ytbmmjbklfheghaa.Com (hid' Ints row_base)

theorem isSeat_any (a1 a2 a3 : Option Addr) (n1 c1 n2 c2 n3 c3 : Nat) (gap rad k : Int) (w : World) :
    Calls Try.prog 22 #[venV a1 n1 c1 gap rad a2 n2 c2 a3 n3 c3, .int .i64 k] w fun e w' => e = .returned (.bool (decide (0 ≤ k ∧ k < (n1 : Int)))) ∧ Below w.heap.size w w' := by
  have hb := below_alloc w (.cells #[.slice a1 n1 c1, .int .i64 gap, .int .i64 rad, .slice a2 n2 c2, .slice a3 n3 c3] 26)
  by_cases h : 0 ≤ k
  · go_enter Try.func22, Try.ntmps22
    go_wp2
    go_ret
    exact ⟨ret_bool (by simp [h]), hb⟩
  · go_enter Try.func22, Try.ntmps22
    go_wp2
    go_ret
    exact ⟨ret_bool (by simp; omega), hb⟩
set_option maxHeartbeats 2000000 in
theorem hides_any (x2 y2 r2 r1 x1 y1 k1 : Int) (hs : standsB x1 y1 = true) (hp : standsB x2 y2 = true ∧ 1 ≤ r2 ∧ r2 ≤ 1048576) (w : World) :
    Calls Try.prog 35 #[poleV x2 y2 r2, seatV r1 x1 y1 k1] w fun e w' => e = .returned (.bool (decide (sqI x1 y1 x2 y2 < r2 * r2))) ∧ Below w.heap.size w w' := by
  have hb : Below w.heap.size w ((w.alloc (.cells #[.int .i64 x2, .int .i64 y2, .int .i64 r2] 41)).alloc (.cells #[.int .i64 r1, .int .i64 x1, .int .i64 y1, .int .i64 k1] 44)) := ((Below.refl _ w).alloc (Nat.le_refl _) _).alloc (by simp) _
  have i1 := (Box.fresh w 41 #[.int .i64 x2, .int .i64 y2, .int .i64 r2]).next (below_alloc _ (.cells #[.int .i64 r1, .int .i64 x1, .int .i64 y1, .int .i64 k1] 44))
  have i2 := Box.fresh (w.alloc (.cells #[.int .i64 x2, .int .i64 y2, .int .i64 r2] 41)) 44 #[.int .i64 r1, .int .i64 x1, .int .i64 y1, .int .i64 k1]
  rw [World.size_alloc] at i2
  have hfar : farI x1 y1 x2 y2 = sqI x1 y1 x2 y2 := by unfold farI; rw [hs, hp.1]; rfl
  have hww : IntKind.i64.wrap (r2 * r2) = r2 * r2 := by
    have := Geo.mul_self_pos r2
    have := Geo.mul_self_le (d := r2) (B := 1048576) (by omega) hp.2.2
    rw [IntKind.wrap_i64]; omega
  have ff0 := far_any r1 x1 y1 k1 0 x2 y2 0
  rw [hfar] at ff0
  clear hfar hs hp
  generalize sqI x1 y1 x2 y2 = z at *
  go_enter Try.func35, Try.ntmps35
  go_wp2_with fail
  generalize (w.alloc (.cells #[.int .i64 x2, .int .i64 y2, .int .i64 r2] 41)).alloc (.cells #[.int .i64 r1, .int .i64 x1, .int .i64 y1, .int .i64 k1] 44) = W at *
  have hne : Nonempty (BelowOf W) := ⟨⟨W, Below.refl _ W⟩⟩
  have d0 := fun p : BelowOf W => (i1.next p.h).cell 0 _ rfl
  have d1 := fun p : BelowOf W => (i1.next p.h).cell 1 _ rfl
  have d2 := fun p : BelowOf W => (i1.next p.h).cell 2 _ rfl
  have e0 := fun p : BelowOf W => (i2.next p.h).cell 0 _ rfl
  have e1 := fun p : BelowOf W => (i2.next p.h).cell 1 _ rfl
  have e2 := fun p : BelowOf W => (i2.next p.h).cell 2 _ rfl
  have e3 := fun p : BelowOf W => (i2.next p.h).cell 3 _ rfl
  have l1 := fun p : BelowOf W => (i1.next p.h).lt
  have l2 := fun p : BelowOf W => (i2.next p.h).lt
  have ff : ∀ p : BelowOf W, Calls Try.prog 48 #[seatV r1 x1 y1 k1, seatV 0 x2 y2 0] p.w fun e w' => e = .returned (.int .i64 z) ∧ Below p.w.heap.size p.w w' := fun p => ff0 p.w
  refine wp_region_quiet_below mixed (by kernel_rfl) ?_
  repeat (go_big_quiet_step ((go_at_call 48; exact Calls.below_of (ff _))))
  refine wpQuiet_nil ?_
  intro _ hw''
  obtain ⟨p, hw3⟩ := hw''
  subst hw3
  go_wp2
  go_ret
  exact ⟨rfl, hb.trans (p.h.mono hb.size)⟩
theorem may_kills {V : Ven} (h : mayB V = true) : V.kills.Pairwise (fun a b => a < b) := by
  unfold mayB at h
  simp only [Bool.and_eq_true] at h
  exact ((Ven.killsB_iff _ _).1 h.1.2).2.2
/-- 2: struck; 1: hidden alone; 0: free. -/
def stateN (V : Ven) (k : Nat) : Int := if (k : Int) ∈ V.kills then 2 else if thoseN V.poles.length (poleN V k) = [] then 0 else 1
theorem state_dead (V : Ven) (k : Nat) : (stateN V k == 0) = !deadN V k := by
  unfold stateN deadN byN
  by_cases h : (k : Int) ∈ V.kills
  · rw [if_pos h]
    have := (killN_some V.kills k).2 h
    simp [this]
  · rw [if_neg h]
    have : killN V.kills k = [] := Classical.byContradiction fun hc => h ((killN_some V.kills k).1 hc)
    rw [this, List.nil_append]
    by_cases h2 : thoseN V.poles.length (poleN V k) = []
    · rw [if_pos h2, h2]; rfl
    · rw [if_neg h2]; simp [h2]
set_option maxHeartbeats 8000000 in
theorem state_any (a1 a2 a3 : Option Addr) (n1 c1 n2 c2 n3 c3 : Nat) (V : Ven) (k : Nat) (hk : k < V.seats.length) (hm : mayB V = true) (w : World) (h : VenAt w a1 n1 c1 a2 n2 c2 a3 n3 c3 V) :
    Calls Try.prog 21 #[venV a1 n1 c1 V.gap V.radius a2 n2 c2 a3 n3 c3, .int .i64 k] w fun e w' => e = .returned (.int .i64 (stateN V k)) ∧ Below w.heap.size w w' := by
  have hw := may_wellK hm
  have hb := below_alloc w (.cells #[.slice a1 n1 c1, .int .i64 V.gap, .int .i64 V.radius, .slice a2 n2 c2, .slice a3 n3 c3] 26)
  have hx := Box.fresh w 26 #[.slice a1 n1 c1, .int .i64 V.gap, .int .i64 V.radius, .slice a2 n2 c2, .slice a3 n3 c3]
  have e1 := h.s.len
  have e2 := h.k.len
  have e3 := h.p.len
  subst e1 e2 e3
  obtain ⟨sb, so, rfl, hC⟩ := Ven.cells_of_pos h.s hk
  have HS := hid' ((hC.next hb).seat k hk)
  have HV := hid' (h.next hb)
  have HB0 := hid' hb
  have HX := hid' hx
  have HW := hid' hw
  have hpl := hw.poles
  have hkz : (k : Int) < (V.seats.length : Int) := by omega
  have hfind := find_any V.kills (.slice a2 V.kills.length c2) (k : Int) hw.kills (may_kills hm) _ (h.next hb).k
  obtain ⟨v0, v1, v2, v3, v4⟩ := hx.five
  have HST : Hid (stateN V k = if decide ((k : Int) ∈ V.kills) = true then 2 else if thoseN V.poles.length (poleN V k) = [] then 0 else 1) := by
    show _ = _
    unfold stateN; simp only [decide_eq_true_eq]
  clear h hC hb hx hw hm
  generalize stateN V k = ans at *
  generalize decide ((k : Int) ∈ V.kills) = d at *
  go_enter Try.func21, Try.ntmps21
  go_wp2_with fail
  refine hfind.mono ?_
  rintro e w1 ⟨⟨z0, rfl⟩, rfl⟩
  clear hfind
  cases d with
  | true =>
    have HA := HST.out
    rw [if_pos rfl] at HA
    subst HA
    have HB := HB0
    clear HB0 HX HV HS v0 v1 v2 v3 v4 HST
    go_wp2
    go_ret
    exact ⟨rfl, HB.out⟩
  | false =>
    have HA : Hid (ans = if thoseN V.poles.length (poleN V k) = [] then 0 else 1) := by
      have := HST.out
      rw [if_neg (by decide)] at this; exact this
    clear HST
    go_wp2_with fail
    clear v0 v1 v2 v3 v4
    generalize w.alloc (.cells #[.slice (some ⟨sb, so, none⟩) V.seats.length c1, .int .i64 V.gap, .int .i64 V.radius, .slice a2 V.kills.length c2, .slice a3 V.poles.length c3] 26) = W at *
    go_loopw [8, 20] (fun _ i wr => ∃ j : Nat, j ≤ V.poles.length ∧ i = .int .i64 j ∧ Hid (Below W.heap.size W wr) ∧ Hid (thoseN j (poleN V k) = [])) (fun _ i _ => V.poles.length - (intOf i).toNat)
    case atStart => exact ⟨0, Nat.zero_le _, rfl, Below.refl _ W, thoseN_zero _⟩
    case round =>
      obtain ⟨i, hi, rfl, HB, HE⟩ := hrel
      obtain ⟨v0, v1, v2, v3, v4⟩ := (HX.out.next HB.out).five
      by_cases hlt2 : i < V.poles.length
      · have hltz2 : (i : Int) < (V.poles.length : Int) := by omega
        have HTS := hid' (thoseN_succ i (poleN V k))
        have HSOME := hid' ((thoseN_some V.poles.length (poleN V k)).2)
        have HWP := hid' (HW.out.pole i hlt2)
        have HST := hid' (HW.out.stand k hk)
        obtain ⟨pb, po, rfl, hP0⟩ := Ven.cells_of_pos HV.out.p hlt2
        have hP := hP0.next HB.out
        have m0 : wr.cell? ⟨pb, po + i * 3, none⟩ = some (.int .i64 V.poles[i].x) := hP.2 i hlt2 0 _ rfl
        have m1 : wr.cell? ⟨pb, po + i * 3 + 1, none⟩ = some (.int .i64 V.poles[i].y) := hP.2 i hlt2 1 _ rfl
        have m2 : wr.cell? ⟨pb, po + i * 3 + 2, none⟩ = some (.int .i64 V.poles[i].r) := hP.2 i hlt2 2 _ rfl
        have ml := hP.1
        have HSS := HS.out.next HB.out
        have HN : Hid (poleN V k i = nearS V.seats[k] ⟨0, V.poles[i].x, V.poles[i].y, 0⟩ V.poles[i].r) := by
          show _ = _
          unfold poleN
          rw [getElem!_pos V.seats k hk, getElem!_pos V.poles i hlt2]
        clear hP hP0
        generalize V.seats[k] = s at *
        generalize V.poles[i] = q at *
        obtain ⟨r1, x1, y1, k1⟩ := s
        obtain ⟨x2, y2, r2⟩ := q
        simp only at m0 m1 m2 HSS HWP HST HN
        have hh0 := hides_any x2 y2 r2 r1 x1 y1 k1 HST.out HWP.out
        unfold nearS at HN
        simp only at HN
        clear HST HWP
        generalize decide (sqI x1 y1 x2 y2 < r2 * r2) = z at *
        go_wp2_with fail
        clear v0 v1 v2 v3 v4
        have hb1 := below_alloc wr (.cells #[.int .i64 x2, .int .i64 y2, .int .i64 r2] 41)
        have hxp := Box.fresh wr 41 #[.int .i64 x2, .int .i64 y2, .int .i64 r2]
        have HB2 := hid' (HB.out.trans (hb1.mono HB.out.size))
        have HSS2 := hid' (HSS.next hb1)
        clear hb1 HB HSS m0 m1 m2 ml
        generalize wr.alloc (.cells #[.int .i64 x2, .int .i64 y2, .int .i64 r2] 41) = wp at *
        generalize wr.heap.size = PB at *
        have hne : Nonempty (BelowOf wp) := ⟨⟨wp, Below.refl _ wp⟩⟩
        have v0 := fun p : BelowOf wp => (HX.out.next (HB2.out.trans (p.h.mono HB2.out.size))).cell 0 _ rfl
        have q0 := fun p : BelowOf wp => (hxp.next p.h).cell 0 _ rfl
        have q1 := fun p : BelowOf wp => (hxp.next p.h).cell 1 _ rfl
        have q2 := fun p : BelowOf wp => (hxp.next p.h).cell 2 _ rfl
        have d0 := fun p : BelowOf wp => (HSS2.out.next p.h).c0
        have d1 := fun p : BelowOf wp => (HSS2.out.next p.h).c1
        have d2 := fun p : BelowOf wp => (HSS2.out.next p.h).c2
        have d3 := fun p : BelowOf wp => (HSS2.out.next p.h).c3
        have hh : ∀ p : BelowOf wp, Calls Try.prog 35 #[poleV x2 y2 r2, seatV r1 x1 y1 k1] p.w fun e w' => e = .returned (.bool z) ∧ Below p.w.heap.size p.w w' := fun p => hh0 p.w
        clear hh0
        refine wp_region_quiet_below mixed (by kernel_rfl) ?_
        repeat (go_big_quiet_step ((go_at_call 35; exact Calls.below_of (hh _))))
        refine wpQuiet_nil ?_
        intro _ hw'
        obtain ⟨p, hw''⟩ := hw'
        subst hw''
        have HB3 := hid' (HB2.out.trans (p.h.mono HB2.out.size))
        clear v0 q0 q1 q2 d0 d1 d2 d3 hh hne HB2 HSS2 hxp
        generalize p.w = wp2 at *
        clear p
        have HB := HB3
        clear HB3
        cases z with
        | true =>
          have HANS : Hid (ans = 1) := by
            show ans = 1
            rw [HA.out, if_neg (HSOME.out ⟨i, hlt2, HN.out⟩)]
          clear HA HTS HSOME HE HN
          obtain rfl := HANS.out
          go_wp2
          go_ret
          exact ⟨rfl, HB0.out.trans (HB.out.mono HB0.out.size)⟩
        | false =>
          have HE2 : Hid (thoseN (i + 1) (poleN V k) = []) := by
            show _ = _
            rw [HTS.out, HN.out, if_neg (by decide), HE.out]
          clear HTS HSOME HE HN
          go_wp2_with fail
          exact ⟨⟨i + 1, by omega, by go_num, HB, HE2⟩, by simp [intOf]; omega⟩
      · have hltz2 : ¬ (i : Int) < (V.poles.length : Int) := by omega
        have hin : i = V.poles.length := by omega
        have HANS : Hid (ans = 0) := by
          show ans = 0
          have := HE.out
          rw [hin] at this
          rw [HA.out, if_pos this]
        clear HA HE hin
        obtain rfl := HANS.out
        go_wp2
        go_ret
        exact ⟨rfl, HB0.out.trans (HB.out.mono HB0.out.size)⟩
set_option maxHeartbeats 8000000 in
theorem hiders_any (a1 a2 a3 : Option Addr) (n1 c1 n2 c2 n3 c3 : Nat) (V : Ven) (k : Nat) (hk : k < V.seats.length) (hw : WellK V) (w : World) (h : VenAt w a1 n1 c1 a2 n2 c2 a3 n3 c3 V) :
    Calls Try.prog 23 #[venV a1 n1 c1 V.gap V.radius a2 n2 c2 a3 n3 c3, .int .i64 k] w fun e w' => ∃ v, e = .returned v ∧ Ints w.heap.size w' v (thoseN V.poles.length (poleN V k)) ∧ Below w.heap.size w w' := by
  have hb := below_alloc w (.cells #[.slice a1 n1 c1, .int .i64 V.gap, .int .i64 V.radius, .slice a2 n2 c2, .slice a3 n3 c3] 26)
  have hx := Box.fresh w 26 #[.slice a1 n1 c1, .int .i64 V.gap, .int .i64 V.radius, .slice a2 n2 c2, .slice a3 n3 c3]
  have e1 := h.s.len
  have e2 := h.k.len
  have e3 := h.p.len
  subst e1 e2 e3
  obtain ⟨sb, so, rfl, hC⟩ := Ven.cells_of_pos h.s hk
  have HS := hid' ((hC.next hb).seat k hk)
  have HV := hid' (h.next hb)
  have HB0 := hid' hb
  have HX := hid' hx
  have HW := hid' hw
  have hpl := hw.poles
  have hkz : (k : Int) < (V.seats.length : Int) := by omega
  obtain ⟨v0, v1, v2, v3, v4⟩ := hx.five
  clear h hC hb hx hw
  go_enter Try.func23, Try.ntmps23
  go_wp2_with fail
  clear v0 v1 v2 v3 v4
  generalize w.alloc (.cells #[.slice (some ⟨sb, so, none⟩) V.seats.length c1, .int .i64 V.gap, .int .i64 V.radius, .slice a2 V.kills.length c2, .slice a3 V.poles.length c3] 26) = W at *
  go_loopw [5, 6, 7, 11] (fun v _ _ i wr => ∃ j : Nat, j ≤ V.poles.length ∧ i = .int .i64 j ∧ Hid (Ints W.heap.size wr v (thoseN j (poleN V k))) ∧ Hid (Below W.heap.size W wr)) (fun _ _ _ i _ => V.poles.length - (intOf i).toNat)
  case atStart => exact ⟨0, Nat.zero_le _, rfl, Com.Ints.nil _ _, Below.refl _ _⟩
  case round =>
    obtain ⟨i, hi, rfl, HR, HB⟩ := hrel
    obtain ⟨v0, v1, v2, v3, v4⟩ := (HX.out.next HB.out).five
    by_cases hlt2 : i < V.poles.length
    · have hltz2 : (i : Int) < (V.poles.length : Int) := by omega
      have HTS := hid' (thoseN_succ i (poleN V k))
      have HLL := hid' (thoseN_le i (poleN V k))
      have HWP := hid' (HW.out.pole i hlt2)
      have HST := hid' (HW.out.stand k hk)
      obtain ⟨pb, po, rfl, hP0⟩ := Ven.cells_of_pos HV.out.p hlt2
      have hP := hP0.next HB.out
      have m0 : wr.cell? ⟨pb, po + i * 3, none⟩ = some (.int .i64 V.poles[i].x) := hP.2 i hlt2 0 _ rfl
      have m1 : wr.cell? ⟨pb, po + i * 3 + 1, none⟩ = some (.int .i64 V.poles[i].y) := hP.2 i hlt2 1 _ rfl
      have m2 : wr.cell? ⟨pb, po + i * 3 + 2, none⟩ = some (.int .i64 V.poles[i].r) := hP.2 i hlt2 2 _ rfl
      have ml := hP.1
      have HSS := HS.out.next HB.out
      have HN : Hid (poleN V k i = nearS V.seats[k] ⟨0, V.poles[i].x, V.poles[i].y, 0⟩ V.poles[i].r) := by
        show _ = _
        unfold poleN
        rw [getElem!_pos V.seats k hk, getElem!_pos V.poles i hlt2]
      clear hP hP0
      generalize V.seats[k] = s at *
      generalize V.poles[i] = q at *
      obtain ⟨r1, x1, y1, k1⟩ := s
      obtain ⟨x2, y2, r2⟩ := q
      simp only at m0 m1 m2 HSS HWP HST HN
      have hh0 := hides_any x2 y2 r2 r1 x1 y1 k1 HST.out HWP.out
      unfold nearS at HN
      simp only at HN
      clear HST HWP
      generalize decide (sqI x1 y1 x2 y2 < r2 * r2) = z at *
      have hll : (thoseN i (poleN V k)).length ≤ 400 := by have := HLL.out; omega
      clear HLL
      generalize thoseN i (poleN V k) = l at *
      generalize hq2 : thoseN (i + 1) (poleN V k) = l2 at *
      have HQ := hid' hq2
      clear hq2
      obtain ⟨av, cv, hav⟩ := row_slice HR.out
      subst hav
      go_wp2_with fail
      clear v0 v1 v2 v3 v4
      have hb1 := below_alloc wr (.cells #[.int .i64 x2, .int .i64 y2, .int .i64 r2] 41)
      have hxp := Box.fresh wr 41 #[.int .i64 x2, .int .i64 y2, .int .i64 r2]
      have HB2 := hid' (HB.out.trans (hb1.mono HB.out.size))
      have HSS2 := hid' (HSS.next hb1)
      have HR2 := hid' (HR.out.next hb1)
      clear hb1 HB HSS m0 m1 m2 ml HR
      generalize wr.alloc (.cells #[.int .i64 x2, .int .i64 y2, .int .i64 r2] 41) = wp at *
      generalize wr.heap.size = PB at *
      have hne : Nonempty (BelowOf wp) := ⟨⟨wp, Below.refl _ wp⟩⟩
      have v0 := fun p : BelowOf wp => (HX.out.next (HB2.out.trans (p.h.mono HB2.out.size))).cell 0 _ rfl
      have q0 := fun p : BelowOf wp => (hxp.next p.h).cell 0 _ rfl
      have q1 := fun p : BelowOf wp => (hxp.next p.h).cell 1 _ rfl
      have q2 := fun p : BelowOf wp => (hxp.next p.h).cell 2 _ rfl
      have d0 := fun p : BelowOf wp => (HSS2.out.next p.h).c0
      have d1 := fun p : BelowOf wp => (HSS2.out.next p.h).c1
      have d2 := fun p : BelowOf wp => (HSS2.out.next p.h).c2
      have d3 := fun p : BelowOf wp => (HSS2.out.next p.h).c3
      have hh : ∀ p : BelowOf wp, Calls Try.prog 35 #[poleV x2 y2 r2, seatV r1 x1 y1 k1] p.w fun e w' => e = .returned (.bool z) ∧ Below p.w.heap.size p.w w' := fun p => hh0 p.w
      clear hh0
      refine wp_region_quiet_below mixed (by kernel_rfl) ?_
      repeat (go_big_quiet_step ((go_at_call 35; exact Calls.below_of (hh _))))
      refine wpQuiet_nil ?_
      intro _ hw'
      obtain ⟨p, hw''⟩ := hw'
      subst hw''
      have HB3 := hid' (HB2.out.trans (p.h.mono HB2.out.size))
      have HR3 := hid' (HR2.out.next p.h)
      clear v0 q0 q1 q2 d0 d1 d2 d3 hh hne HB2 HSS2 hxp HR2
      generalize p.w = wp2 at *
      clear p
      have HB := HB3
      clear HB3
      have HR := HR3
      clear HR3
      cases z with
      | true =>
        have HT2 : Hid (l2 = l ++ [(i : Int)]) := by
          show _ = _
          rw [HTS.out, HN.out, if_pos rfl]
        clear HTS HN
        have HR2 := hid' (row_next HR.out ((Below.refl _ wp2).alloc (Nat.le_refl _) (.cells #[.int .i64 (i : Int)] 3)))
        have hsz : W.heap.size ≤ (wp2.alloc (.cells #[.int .i64 (i : Int)] 3)).heap.size := by have := HB.out.size; simp; omega
        have HB1 := hid' (HB.out.alloc HB.out.size (.cells #[.int .i64 (i : Int)] 3))
        obtain ⟨i0, hi0, hz0, hz1, hz2⟩ := info3
        go_wp2_with (at_builtin; refine wpList_append_own _ rfl _ _ 23 rfl W.heap.size 3 i0 (.int .i64 0) 1 8 Try.underlying23 hi0 hz0 hz1 hz2 rfl (by omega) _ _ _ rfl HR2.out ⟨wp2.heap.size, 0, none⟩ 1 1 [.int .i64 (i : Int)] rfl ?qe1 ?qe2 ?qe3 ?qe4 ?qe5 ?qe6 ?_)
        case qe1 => rfl
        case qe2 =>
          intro t z ht
          rw [Addr.add_lit, Nat.zero_add, World.cell?_alloc_at _ _ _ _ rfl]
          show ([Value.int .i64 (i : Int)] : List Value).toArray[t]? = some z
          rw [List.getElem?_toArray]; exact ht
        case qe3 => intro z hz; simp at hz; subst hz; rfl
        case qe4 => unfold maxLen; omega
        case qe5 => omega
        case qe6 => exact hsz
        intro v6 w6 hown6 hgr6 _
        have HB6 := hid' (HB1.out.grown hgr6 hsz (fun t ht => (HR2.out.lt t ht).1))
        have HR6 : Hid (Ints W.heap.size w6 v6 (l ++ [(i : Int)])) := by
          show w6.ownsRow _ _ _ _ _ _
          rw [List.flatMap_append, List.length_append]; exact hown6
        clear hown6 hgr6 HR HR2 hsz HB HB1
        go_wp2_with fail
        exact ⟨⟨i + 1, by omega, by go_num, (show Ints _ _ _ _ by rw [HQ.out, HT2.out]; exact HR6.out), HB6⟩, by simp [intOf]; omega⟩
      | false =>
        have HT2 : Hid (l2 = l) := by
          show _ = _
          rw [HTS.out, HN.out, if_neg (by decide)]
        clear HTS HN
        go_wp2_with fail
        exact ⟨⟨i + 1, by omega, by go_num, (show Ints _ _ _ _ by rw [HQ.out, HT2.out]; exact HR.out), HB⟩, by simp [intOf]; omega⟩
    · have hltz2 : ¬ (i : Int) < (V.poles.length : Int) := by omega
      have hin : i = V.poles.length := by omega
      have HRF : Hid (Ints w.heap.size wr u5 (thoseN V.poles.length (poleN V k))) := by
        have := HR.out
        rw [hin] at this
        exact row_base this HB0.out.size
      have HBF := hid' (HB0.out.trans (HB.out.mono HB0.out.size))
      clear HR hin
      go_wp2
      go_ret
      exact ⟨_, rfl, HRF.out, HBF.out⟩
end Go.Proofs.Ytbmmjbklfheghaa.Kll
