/- RunAsks answers true: its walk. -/
import Derived.Test.YtdodmbfkcandgaaUAsksR
import Derived.Test.YtdodmbfkcandgaaUPiecesP
import Derived.Test.YtdodmbfkcandgaaUTold
import Derived.Test.YtdodmbfkcandgaaURefR
import Derived.Test.YtdodmbfkcandgaaVMakeA
namespace Go.Proofs.Ytdodmbfkcandgaa.Rnn
set_option linter.unusedVariables false
set_option maxRecDepth 100000
open Go.RowKit Go.Shelf
open Go.Proofs.Ytdodmbfkcandgaa.Ven (Seat Pole Ven VenAt venV seatV Box mayB mixed Sl below_alloc mod_u64 intC)

theorem runs_most (V : Ven) (u : List Bool) : (runsL V u).length ≤ 4096 := by
  cases hm : mayB V with
  | false => unfold runsL; rw [hm]; simp
  | true => have := runs_few (u := u) hm; have := (may_well hm).few; omega
set_option maxHeartbeats 16000000 in
theorem asks_law (a1 a2 a3 : Option Addr) (n1 c1 n2 c2 n3 c3 : Nat) (V : Ven) {w0 : World} (h : VenAt w0 a1 n1 c1 a2 n2 c2 a3 n3 c3 V) (u1 : Option Addr) (un uc : Nat) (u : List Bool) (hu : MarksAt w0 u1 un uc u) (aa0 ss0 : Int) (w : World) (hw : w0 = w := by rfl) :
    Calls Try.prog 3 #[venV a1 n1 c1 V.gap V.radius a2 n2 c2 a3 n3 c3, .slice u1 un uc, .int .i64 aa0, .int .i64 ss0] w fun e w' => e = .returned (.bool true) ∧ Below w.heap.size w w' := by
  subst hw
  have hn1 := h.s.len
  subst hn1
  have hb0 := below_alloc w0 (.cells #[.slice a1 V.seats.length c1, .int .i64 V.gap, .int .i64 V.radius, .slice a2 n2 c2, .slice a3 n3 c3] 26)
  have hx := Box.fresh w0 26 #[.slice a1 V.seats.length c1, .int .i64 V.gap, .int .i64 V.radius, .slice a2 n2 c2, .slice a3 n3 c3]
  have few := few_any a1 a2 a3 V.seats.length c1 n2 c2 n3 c3 V _ (h.next hb0)
  have HV := hid' (h.next hb0)
  have HU := hid' (hu.next hb0)
  have HB0 := hid' hb0
  have HX := hid' hx
  have HFW : Hid ((decide (V.seats.length ≤ 40) && (decide (n2 ≤ 40) && decide (n3 ≤ 40))) = true → V.seats.length ≤ 40) := fun h1 => of_decide_eq_true (Bool.and_eq_true_iff.1 h1).1
  obtain ⟨v0, v1, v2, v3, v4⟩ := hx.five
  clear h hu hb0 hx
  generalize (decide (V.seats.length ≤ 40) && (decide (n2 ≤ 40) && decide (n3 ≤ 40))) = fw at few HFW
  cases fw with
  | false =>
    go_enter Try.func3, Try.ntmps3
    go_wp2_with fail
    refine few.mono ?_
    rintro e w1 ⟨rfl, hb1⟩
    have HB := hid' (HB0.out.trans (hb1.mono HB0.out.size))
    clear few hb1 v0 v1 v2 v3 v4
    go_wp2_with fail
    refine (told_any _).mono ?_
    rintro e w2 ⟨rfl, hb2⟩
    have HF := hid' (HB.out.trans (hb2.mono HB.out.size))
    clear hb2
    go_wp2
    go_ret
    exact ⟨rfl, HF.out⟩
  | true =>
    by_cases hun : un ≤ 50
    · have hunz : ¬ (50 : Int) < (un : Int) := by omega
      have hl40 := HFW.out (by trivial)
      go_enter Try.func3, Try.ntmps3
      go_wp2_with fail
      refine few.mono ?_
      rintro e w1 ⟨rfl, hb1⟩
      have HB := hid' (HB0.out.trans (hb1.mono HB0.out.size))
      have HV1 := hid' (HV.out.next hb1)
      have HU1 := hid' (HU.out.next hb1)
      have HX1 := hid' (HX.out.next hb1)
      clear few hb1 v0 v1 v2 v3 v4 HB0 HV HU HX
      go_wp2_with fail
      clear hunz
      have hwl : IntKind.i64.wrap ((V.seats.length : Int) + 1) = (V.seats.length : Int) + 1 := by rw [IntKind.wrap_i64] <;> omega
      have m0 : ((V.seats.length : Int) + 1 == 0) = false := by rw [beq_eq_false_iff_ne]; omega
      have m1 : ¬ (V.seats.length : Int) + 1 = 0 := by omega
      have m2 : IntKind.u64.wrap ((V.seats.length : Int) + 1) = (V.seats.length : Int) + 1 := by
        unfold IntKind.wrap
        simp [IntKind.signed, IntKind.bits]
        omega
      go_loopw [2, 3, 9, 10, 11, 12, 13] (fun pa ps i _ _ _ _ wr => ∃ (k : Nat) (aa ss : Int), k ≤ 2 ∧ pa = .int .i64 aa ∧ ps = .int .i64 ss ∧ i = .int .i64 k ∧ Hid (Below w1.heap.size w1 wr)) (fun _ _ i _ _ _ _ _ => 2 - (intOf i).toNat)
      case atStart => exact ⟨0, aa0, ss0, Nat.zero_le _, rfl, rfl, rfl, Below.refl _ _⟩
      case round =>
        obtain ⟨k, aa, ss, hk, rfl, rfl, rfl, HY⟩ := hrel
        obtain ⟨v0, v1, v2, v3, v4⟩ := (HX1.out.next HY.out).five
        by_cases hlt : k < 2
        · have hltz : (k : Int) < 2 := by omega
          have hof := of_any _ _ _ _ _ _ _ _ _ _ _ _ V u aa ss wr (HV1.out.next HY.out) (HU1.out.next HY.out)
          have HRR : Hid (∀ W, Below wr.heap.size wr W → Calls Try.prog 10 #[venV a1 V.seats.length c1 V.gap V.radius a2 n2 c2 a3 n3 c3, .slice u1 un uc, .int .i64 aa, .int .i64 ss] W fun e w' => ∃ v, e = .returned (.tuple #[v, .bool (ofOk V u aa ss)]) ∧ Sl 1 intC w' v (ofL V u aa ss) ∧ Below W.heap.size W w') := fun W hW => rrun_any _ _ _ _ _ _ _ _ _ _ _ _ V u aa ss W ((HV1.out.next HY.out).next hW) ((HU1.out.next HY.out).next hW)
          generalize ofOk V u aa ss = ok at *
          generalize ofL V u aa ss = L at *
          obtain ⟨j, hj, ej⟩ := mod_u64 aa ((V.seats.length : Int) + 1) (by omega)
          obtain ⟨s, hs6, es⟩ := mod_u64 ss 6 (by omega)
          have m3 : IntKind.i64.wrap (j : Int) = j := by rw [IntKind.wrap_i64] <;> omega
          have m4 : IntKind.i64.wrap (s : Int) = s := by rw [IntKind.wrap_i64] <;> omega
          have m5 : IntKind.i64.wrap (1 + (s : Int)) = 1 + (s : Int) := by rw [IntKind.wrap_i64] <;> omega
          go_wp2_with fail
          refine hof.mono ?_
          rintro e w2 ⟨xv, rfl, hsx, hb2⟩
          obtain ⟨xa, xc, rfl, _⟩ := Sl.form hsx
          have HY2 := hid' (HY.out.trans (hb2.mono HY.out.size))
          have HR2 := hid' (HRR.out w2 hb2)
          have HS2 := hid' hsx
          clear hof hb2 hsx v0 v1 v2 v3 v4 HRR
          obtain ⟨v0, v1, v2, v3, v4⟩ := (HX1.out.next HY2.out).five
          go_wp2_with fail
          refine HR2.out.mono ?_
          rintro e w3 ⟨yv, rfl, hsy, hb3⟩
          obtain ⟨ya, yc, rfl, _⟩ := Sl.form hsy
          have HY3 := hid' (HY2.out.trans (hb3.mono HY2.out.size))
          have HSX := hid' (HS2.out.next hb3)
          have HSY := hid' hsy
          clear hb3 hsy v0 v1 v2 v3 v4 HR2 HS2
          go_wp2_with fail
          refine asks_region _ w3 rfl w0.heap.size a1 a2 a3 u1 xa ya V.seats.length c1 n2 c2 n3 c3 un uc L.length xc L.length yc V.gap V.radius aa (longB V u aa) (nextB V aa) ok (runsL V u) (runs_most V u) (HX1.out.next HY3.out) rfl rfl rfl rfl rfl rfl rfl ?_ ?_ ?_ ?_ ?_ ?_ ?_ ?_
          · intro w hw; exact nexts_any _ _ _ _ _ _ _ _ _ V aa w ((HV1.out.next HY3.out).next hw)
          · intro w hw; exact rnexts_any _ _ _ _ _ _ _ _ _ V aa w ((HV1.out.next HY3.out).next hw)
          · intro w hw; exact long_any _ _ _ _ _ _ _ _ _ _ _ _ V u aa w ((HV1.out.next HY3.out).next hw) ((HU1.out.next HY3.out).next hw)
          · intro w hw; exact rlongs_any _ _ _ _ _ _ _ _ _ _ _ _ V u aa w ((HV1.out.next HY3.out).next hw) ((HU1.out.next HY3.out).next hw)
          · intro w hw
            have := same_any L L _ _ w (HSX.out.next hw) (HSY.out.next hw)
            rw [decide_eq_true rfl] at this; exact this
          · intro w hw; exact runs_any _ _ _ _ _ _ _ _ _ _ _ _ V u w ((HV1.out.next HY3.out).next hw) ((HU1.out.next HY3.out).next hw)
          · intro w hw; exact rruns_any _ _ _ _ _ _ _ _ _ _ _ _ V u w ((HV1.out.next HY3.out).next hw) ((HU1.out.next HY3.out).next hw)
          intro w4 r1 r2 hb4
          have HY4 := hid' (HY3.out.trans (hb4.mono HY3.out.size))
          clear hb4 HSX HSY
          generalize longB V u aa = D
          generalize nextB V aa = C
          simp only [Ven.putAll, List.setIfInBounds_toArray, List.set_cons_succ, List.set_cons_zero]
          obtain ⟨v0, v1, v2, v3, v4⟩ := (HX1.out.next HY4.out).five
          go_wp2_with fail
          exact ⟨⟨k + 1, _, _, by omega, rfl, rfl, by go_num, HY4⟩, by simp [intOf]; omega⟩
        · have hltz : ¬ (k : Int) < 2 := by omega
          go_wp2_with fail
          refine (told_any _).mono ?_
          rintro e w2 ⟨rfl, hb2⟩
          have HF := hid' (HB.out.trans ((HY.out.trans (hb2.mono HY.out.size)).mono HB.out.size))
          clear hb2
          go_wp2
          go_ret
          exact ⟨rfl, HF.out⟩
    · have hunz : (50 : Int) < (un : Int) := by omega
      go_enter Try.func3, Try.ntmps3
      go_wp2_with fail
      refine few.mono ?_
      rintro e w1 ⟨rfl, hb1⟩
      have HB := hid' (HB0.out.trans (hb1.mono HB0.out.size))
      clear few hb1 v0 v1 v2 v3 v4
      go_wp2_with fail
      refine (told_any _).mono ?_
      rintro e w2 ⟨rfl, hb2⟩
      have HF := hid' (HB.out.trans (hb2.mono HB.out.size))
      clear hb2
      go_wp2
      go_ret
      exact ⟨rfl, HF.out⟩
end Go.Proofs.Ytdodmbfkcandgaa.Rnn
