/- RunPieces answers true: its walk. -/
import Derived.Test.YtdodmbfkcandgaaUTold
import Derived.Test.YtdodmbfkcandgaaUSmall
import Derived.Test.YtdodmbfkcandgaaUPiecesP
import Derived.Test.YtdodmbfkcandgaaVMakeA
import Derived.Test.YtdodmbfkcandgaaVRWrong
namespace Go.Proofs.Ytdodmbfkcandgaa.Rnn
set_option linter.unusedVariables false
set_option maxRecDepth 100000
open Go.RowKit Go.Shelf
open Go.Proofs.Ytdodmbfkcandgaa.Ven (Seat Pole Ven VenAt venV seatV Box mayB mixed Sl below_alloc IntsAt make_any intC rmay_any RowF BelowOf wp_region_quiet_below Calls.below_of)

theorem rowf_zeros (w : World) (u : List Bool) : RowF (w.alloc (.cells (Value.int .i64 0 :: Value.int .i64 0 :: Value.int .i64 0 :: Value.int .i64 0 :: Value.int .i64 0 :: Value.int .i64 0 :: Value.int .i64 0 :: Value.int .i64 0 :: Value.int .i64 0 :: Value.int .i64 0 :: Value.int .i64 0 :: Value.int .i64 0 :: Value.int .i64 0 :: Value.int .i64 0 :: Value.int .i64 0 :: Value.int .i64 0 :: Value.int .i64 0 :: Value.int .i64 0 :: Value.int .i64 0 :: Value.int .i64 0 :: Value.int .i64 0 :: Value.int .i64 0 :: Value.int .i64 0 :: Value.int .i64 0 :: Value.int .i64 0 :: Value.int .i64 0 :: Value.int .i64 0 :: Value.int .i64 0 :: Value.int .i64 0 :: Value.int .i64 0 :: Value.int .i64 0 :: Value.int .i64 0 :: Value.int .i64 0 :: Value.int .i64 0 :: Value.int .i64 0 :: Value.int .i64 0 :: Value.int .i64 0 :: Value.int .i64 0 :: Value.int .i64 0 :: Value.int .i64 0 :: []).toArray 41)) w.heap.size 40 (fun x => .int .i64 (metN u 0 x)) := by
  have h := RowF.made w (.int .i64 0) 40 41
  rw [show madeCells #[.int .i64 0] 40 = (Value.int .i64 0 :: Value.int .i64 0 :: Value.int .i64 0 :: Value.int .i64 0 :: Value.int .i64 0 :: Value.int .i64 0 :: Value.int .i64 0 :: Value.int .i64 0 :: Value.int .i64 0 :: Value.int .i64 0 :: Value.int .i64 0 :: Value.int .i64 0 :: Value.int .i64 0 :: Value.int .i64 0 :: Value.int .i64 0 :: Value.int .i64 0 :: Value.int .i64 0 :: Value.int .i64 0 :: Value.int .i64 0 :: Value.int .i64 0 :: Value.int .i64 0 :: Value.int .i64 0 :: Value.int .i64 0 :: Value.int .i64 0 :: Value.int .i64 0 :: Value.int .i64 0 :: Value.int .i64 0 :: Value.int .i64 0 :: Value.int .i64 0 :: Value.int .i64 0 :: Value.int .i64 0 :: Value.int .i64 0 :: Value.int .i64 0 :: Value.int .i64 0 :: Value.int .i64 0 :: Value.int .i64 0 :: Value.int .i64 0 :: Value.int .i64 0 :: Value.int .i64 0 :: Value.int .i64 0 :: []).toArray from by kernel_rfl] at h
  refine ⟨h.1, fun x hx => ?_⟩
  have e : metN u 0 x = 0 := by unfold metN; simp
  show _ = some (Value.int .i64 (metN u 0 x)) ∧ _
  rw [e]; exact h.2 x hx
set_option maxHeartbeats 16000000 in
theorem pieces_law (a : Option Addr) (len cap : Nat) (l : List Int) {w0 : World} (h : IntsAt w0 a len cap l) (u1 : Option Addr) (un uc : Nat) (u : List Bool) (hu : MarksAt w0 u1 un uc u) (w : World) (hw : w0 = w := by rfl) :
    Calls Try.prog 4 #[.slice a len cap, .slice u1 un uc] w fun e w' => e = .returned (.bool true) ∧ Below w.heap.size w w' := by
  subst hw
  have hmake := make_any a len cap l 30 (by omega) (by omega) w0 h
  have HU := hid' hu
  clear h hu
  go_enter Try.func4, Try.ntmps4
  go_wp2_with fail
  refine hmake.mono ?_
  rintro e w1 ⟨V, az, cs, ak, ck, ap, cp, row, xx, rfl, hven, hok, hle, hb1⟩
  have hl1 := hok.len
  have HM := hid' (hok.may (by omega))
  have hb2 := below_alloc w1 (.cells #[.slice az V.seats.length cs, .int .i64 V.gap, .int .i64 V.radius, .slice ak V.kills.length ck, .slice ap V.poles.length cp] 26)
  have hx := Box.fresh w1 26 #[.slice az V.seats.length cs, .int .i64 V.gap, .int .i64 V.radius, .slice ak V.kills.length ck, .slice ap V.poles.length cp]
  have HV := hid' (hven.next hb2)
  have HUW := hid' ((HU.out.next hb1).next hb2)
  have HB2 := hid' (hb1.trans (hb2.mono hb1.size))
  have HX := hid' hx
  obtain ⟨v0, v1, v2, v3, v4⟩ := hx.five
  clear hmake hok hven hb1 hb2 hx HU
  go_wp2_with fail
  generalize w1.alloc (.cells #[.slice az V.seats.length cs, .int .i64 V.gap, .int .i64 V.radius, .slice ak V.kills.length ck, .slice ap V.poles.length cp] 26) = W at *
  generalize w1.heap.size = B at *
  refine (runs_any _ _ _ _ _ _ _ _ _ _ _ _ V u W HV.out HUW.out).mono ?_
  rintro e w2 ⟨v, rfl, hr, hb3⟩
  have HB3 := hid' (HB2.out.trans (hb3.mono HB2.out.size))
  have HV3 := hid' (HV.out.next hb3)
  have HU3 := hid' (HUW.out.next hb3)
  have HX3 := hid' (HX.out.next hb3)
  have HR3 := hid' hr
  obtain ⟨ra, rc, rfl⟩ := hr.slice
  clear hb3 hr HB2 HV HUW HX v0 v1 v2 v3 v4
  have hrl : (runsL V u).length ≤ 30 := by have := runs_few (u := u) HM.out; omega
  go_wp2_with fail
  have HR0 := hid' (rowf_zeros w2 u)
  have HB0 := hid' (below_alloc w2 (.cells (Value.int .i64 0 :: Value.int .i64 0 :: Value.int .i64 0 :: Value.int .i64 0 :: Value.int .i64 0 :: Value.int .i64 0 :: Value.int .i64 0 :: Value.int .i64 0 :: Value.int .i64 0 :: Value.int .i64 0 :: Value.int .i64 0 :: Value.int .i64 0 :: Value.int .i64 0 :: Value.int .i64 0 :: Value.int .i64 0 :: Value.int .i64 0 :: Value.int .i64 0 :: Value.int .i64 0 :: Value.int .i64 0 :: Value.int .i64 0 :: Value.int .i64 0 :: Value.int .i64 0 :: Value.int .i64 0 :: Value.int .i64 0 :: Value.int .i64 0 :: Value.int .i64 0 :: Value.int .i64 0 :: Value.int .i64 0 :: Value.int .i64 0 :: Value.int .i64 0 :: Value.int .i64 0 :: Value.int .i64 0 :: Value.int .i64 0 :: Value.int .i64 0 :: Value.int .i64 0 :: Value.int .i64 0 :: Value.int .i64 0 :: Value.int .i64 0 :: Value.int .i64 0 :: Value.int .i64 0 :: []).toArray 41))
  go_loopw [8, 9, 10, 11, 12] (fun last i _ _ _ wr => ∃ (n b : Nat) (z : Int), n ≤ (runsL V u).length ∧ i = .int .i64 n ∧ last = .int .i64 z ∧ -1 ≤ z ∧ z < (b : Int) ∧ Hid (FromP V u n b) ∧ Hid (Below w2.heap.size w2 wr) ∧ Hid (RowF wr w2.heap.size 40 (fun x => .int .i64 (metN u b x)))) (fun _ i _ _ _ _ => (runsL V u).length - (intOf i).toNat)
  case atStart => exact ⟨0, 0, -1, Nat.zero_le _, rfl, rfl, by omega, by omega, FromP.start V u, HB0, HR0⟩
  case round =>
    clear HR0 HB0
    obtain ⟨n, b, z, hn, rfl, rfl, hz1, hz2, HF, HB, HR⟩ := hrel
    by_cases hlt : n < (runsL V u).length
    · have hltz : (n : Int) < ((runsL V u).length : Int) := by omega
      obtain ⟨a0, k, hp⟩ := HF.out.piece HM.out (by rw [← runs_cut HM.out]; exact hlt)
      obtain ⟨_, Gr, rb, rd, rfl, hg1, hg2, hg3⟩ := HR3.out.at n hlt
      have hat := hp.at_ hlt
      rw [hat, rowL_len] at hg2 hg3
      have hk1 := hp.one
      have htop := hp.top
      obtain ⟨pb, po, pc, hpe, hp1, hp2⟩ := Sl.num hg3 (by rw [rowL_len]; exact hk1)
      rw [rowL_len] at hpe
      rw [hpe] at hg2
      have HGRW : Hid (∀ W, Below w2.heap.size w2 W → W.cell? ⟨Gr, n, none⟩ = some (.slice (some ⟨pb, po, none⟩) k pc)) := fun W hW => (hW.cell (p := ⟨Gr, n, none⟩) hg1).trans hg2
      have HPCW : Hid (∀ W, Below w2.heap.size w2 W → ∀ q, q < k → W.cell? ⟨pb, po + q, none⟩ = some (.int .i64 ((a0 : Int) + (q : Int)))) := fun W hW q hq => by
        have := hp2 q (by rw [rowL_len]; exact hq)
        rw [rowL_at] at this
        exact (hW.cell (p := ⟨pb, po + q, none⟩) hp1).trans this
      have HP := hid' hp
      clear hg1 hg2 hg3 hat hpe hp1 hp2 hp
      generalize (runsL V u).length = rl at *
      have hne : Nonempty (BelowOf wr) := ⟨⟨wr, Below.refl _ wr⟩⟩
      have HT : Hid (∀ p : BelowOf wr, Below w2.heap.size w2 p.w) := fun p => HB.out.trans (p.h.mono HB.out.size)
      have v0 := fun p : BelowOf wr => (HX3.out.next (HT.out p)).cell 0 _ rfl
      have v1 := fun p : BelowOf wr => (HX3.out.next (HT.out p)).cell 1 _ rfl
      have v2 := fun p : BelowOf wr => (HX3.out.next (HT.out p)).cell 2 _ rfl
      have v3 := fun p : BelowOf wr => (HX3.out.next (HT.out p)).cell 3 _ rfl
      have v4 := fun p : BelowOf wr => (HX3.out.next (HT.out p)).cell 4 _ rfl
      have r0 := fun p : BelowOf wr => HGRW.out p.w (HT.out p)
      have r1 : ∀ p : BelowOf wr, p.w.cell? ⟨pb, po, none⟩ = some (.int .i64 a0) := fun p => by have := HPCW.out p.w (HT.out p) 0 hk1; simpa using this
      have lg : ∀ p : BelowOf wr, Calls Try.prog 13 #[venV az V.seats.length cs V.gap V.radius ak V.kills.length ck ap V.poles.length cp, .slice u1 un uc, .int .i64 a0] p.w fun e w' => e = .returned (.int .i64 k) ∧ Below p.w.heap.size p.w w' := fun p => by
        have := long_any _ _ _ _ _ _ _ _ _ _ _ _ V u a0 p.w (HV3.out.next (HT.out p)) (HU3.out.next (HT.out p))
        rw [longB_nat HM.out, HP.out.long] at this
        exact this
      have k0 : ((k : Int) == 0) = false := by rw [beq_eq_false_iff_ne]; omega
      have k1 : ((k : Int) != (k : Int)) = false := by simp
      have kz : (0 : Int) < (k : Int) := by omega
      go_wp2_with fail
      refine wp_region_quiet_below mixed (by kernel_rfl) ?_
      repeat (go_big_quiet_step ((go_at_call 13; exact Calls.below_of (lg _))))
      refine wpQuiet_nil ?_
      intro _ hw'
      obtain ⟨p, hw''⟩ := hw'
      subst hw''
      have HB1 := hid' (HT.out p)
      have HR1 := hid' (HR.out.next p.h)
      have q0 := r0 p
      have q1 := r1 p
      clear v0 v1 v2 v3 v4 r0 r1 lg HB HR HT hne
      generalize p.w = wp at *
      clear p
      go_upto_region 11 with fail
      go_cut [76] from 55 to 76 (fun s wx => s = .bool false ∧ Hid (Below wp.heap.size wp wx))
      case first =>
        obtain ⟨v0, v1, v2, v3, v4⟩ := (HX3.out.next HB1.out).five
        by_cases h0 : a0 = 0
        · have hz : ¬ (0 : Int) < (a0 : Int) := by omega
          clear h0
          go_wp2_with fail
          go_meet
          exact ⟨rfl, Below.refl _ _⟩
        · have hz : (0 : Int) < (a0 : Int) := by omega
          have hw1 : IntKind.i64.wrap ((a0 : Int) - 1) = ((a0 - 1 : Nat) : Int) := by rw [IntKind.wrap_i64] <;> omega
          have hnx := nexts_any _ _ _ _ _ _ _ _ _ V ((a0 - 1 : Nat) : Int) wp (HV3.out.next HB1.out)
          rw [nextB_nat HM.out] at hnx
          have hbeg := HP.out.beg h0
          have hu := HU3.out.next HB1.out
          have hul := hu.len
          subst hul
          clear h0
          generalize a0 - 1 = a1 at *
          cases hq : nextL V.seats V.gap a1 with
          | false =>
            rw [hq] at hnx
            clear hq hbeg hu
            go_wp2_with fail
            refine hnx.mono ?_
            rintro e w4 ⟨rfl, hb4⟩
            have HB4 := hid' hb4
            clear hb4 hnx v0 v1 v2 v3 v4
            go_wp2_with fail
            go_meet
            exact ⟨rfl, HB4⟩
          | true =>
            rw [hq] at hnx hbeg
            rw [Bool.true_and] at hbeg
            by_cases hl : a1 < u.length
            · have hlz : (a1 : Int) < (u.length : Int) := by omega
              obtain ⟨ub, uo, rfl, hu1, hu2⟩ := hu.at a1 hl
              have hval : u[a1] = false := by
                unfold isU at hbeg
                rw [List.getD_eq_getElem?_getD, List.getElem?_eq_getElem hl] at hbeg
                exact hbeg
              rw [hval] at hu2
              clear hq hbeg hval hl
              go_wp2_with fail
              refine hnx.mono ?_
              rintro e w4 ⟨rfl, hb4⟩
              have HB4 := hid' hb4
              have hu4 : w4.cell? ⟨ub, uo + a1, none⟩ = some (.bool false) := (hb4.cell (p := ⟨ub, uo + a1, none⟩) hu1).trans hu2
              clear hb4 hnx v0 v1 v2 v3 v4 hu2 hu1
              go_wp2_with fail
              go_meet
              exact ⟨rfl, HB4⟩
            · have hlz : ¬ (a1 : Int) < (u.length : Int) := by omega
              clear hq hbeg hu hl
              go_wp2_with fail
              refine hnx.mono ?_
              rintro e w4 ⟨rfl, hb4⟩
              have HB4 := hid' hb4
              clear hb4 hnx v0 v1 v2 v3 v4
              go_wp2_with fail
              go_meet
              exact ⟨rfl, HB4⟩
      case rest =>
        obtain ⟨rfl, HC⟩ := hcut
        have HBC := hid' (HB1.out.trans (HC.out.mono HB1.out.size))
        have HRC : Hid (RowF wc w2.heap.size 40 (fun x => .int .i64 (metN u (a0 + 0) x))) := by
          have h1 := HR1.out.next HC.out
          show RowF _ _ _ _
          have e : (fun x => Value.int .i64 (metN u b x)) = (fun x => .int .i64 (metN u (a0 + 0) x)) := funext fun x => by rw [HP.out.met x]; rfl
          rw [← e]; exact h1
        have hzb : z < (a0 : Int) := by have := HP.out.low; omega
        clear HB1 HR1 HC k0 k1
        go_wp2_with fail
        clear kz
        go_loopw [8, 11, 12] (fun last i _ wr => ∃ (q : Nat) (z : Int), q ≤ k ∧ i = .int .i64 q ∧ last = .int .i64 z ∧ -1 ≤ z ∧ z < (a0 : Int) + (q : Int) ∧ Hid (Below w2.heap.size w2 wr) ∧ Hid (RowF wr w2.heap.size 40 (fun x => .int .i64 (metN u (a0 + q) x)))) (fun _ i _ _ => k - (intOf i).toNat)
        case atStart => exact ⟨0, z, Nat.zero_le _, rfl, rfl, hz1, by omega, HBC, HRC⟩
        case round =>
          clear HBC HRC hzb hz1 hz2
          obtain ⟨q, z, hq, rfl, rfl, hz1, hz2, HBI, HRI⟩ := hrel
          have r0 := HGRW.out wr HBI.out
          by_cases hlt2 : q < k
          · have hq2 : (q : Int) < (k : Int) := by omega
            have r1 := HPCW.out wr HBI.out q hlt2
            obtain ⟨v0, v1, v2, v3, v4⟩ := (HX3.out.next HBI.out).five
            have d1 : ¬ (a0 : Int) + (q : Int) ≤ z := by omega
            have d2 : ¬ (V.seats.length : Int) ≤ (a0 : Int) + (q : Int) := by omega
            have d3 : (a0 : Int) + (q : Int) < 40 := by omega
            by_cases h0 : q = 0
            · have d4 : ¬ (0 : Int) < (q : Int) := by omega
              clear h0
              have z3 := HRI.out.2 (a0 + q) (by omega)
              have z4 : wr.cell? ⟨w2.heap.size, a0 + q, none⟩ = some (.int .i64 (metN u (a0 + q) (a0 + q))) := z3.1
              rw [metN_own] at z4
              have z5 := z3.2
              have hput := HRI.out.put (f' := fun x => .int .i64 (metN u (a0 + (q + 1)) x)) (a0 + q) (.int .i64 1) (by omega) (fun x _ => by
                show Value.int .i64 (metN u (a0 + q + 1) x) = if x = a0 + q then Value.int .i64 1 else .int .i64 (metN u (a0 + q) x)
                rw [metN_put (HP.out.us q hlt2)]
                split <;> rfl)
              have HR5 := hid' hput
              have HB5 := hid' (Below.setCell HBI.out (show w2.heap.size ≤ (⟨w2.heap.size, a0 + q, none⟩ : Addr).block from Nat.le_refl _) (.int .i64 1))
              clear z3 hput
              go_wp2_with fail
              exact ⟨⟨q + 1, (a0 : Int) + (q : Int), by omega, by go_num, rfl, by omega, by omega, HB5, HR5⟩, by simp [intOf]; omega⟩
            · have d4 : (0 : Int) < (q : Int) := by omega
              have hw1 : IntKind.i64.wrap ((a0 : Int) + (q : Int) - 1) = ((a0 + q - 1 : Nat) : Int) := by rw [IntKind.wrap_i64] <;> omega
              have hnx := nexts_any _ _ _ _ _ _ _ _ _ V ((a0 + q - 1 : Nat) : Int) wr (HV3.out.next HBI.out)
              rw [nextB_nat HM.out, HP.out.nx q (by omega) hlt2] at hnx
              clear h0
              generalize a0 + q - 1 = a1 at *
              go_wp2_with fail
              refine hnx.mono ?_
              rintro e w4 ⟨rfl, hb4⟩
              have HBI2 := hid' (HBI.out.trans (hb4.mono HBI.out.size))
              have HRI2 := hid' (HRI.out.next hb4)
              obtain ⟨v0, v1, v2, v3, v4⟩ := (HX3.out.next HBI2.out).five
              clear hb4 hnx HBI HRI
              have HBI := HBI2
              have HRI := HRI2
              clear HBI2 HRI2
              have z3 := HRI.out.2 (a0 + q) (by omega)
              have z4 : w4.cell? ⟨w2.heap.size, a0 + q, none⟩ = some (.int .i64 (metN u (a0 + q) (a0 + q))) := z3.1
              rw [metN_own] at z4
              have z5 := z3.2
              have hput := HRI.out.put (f' := fun x => .int .i64 (metN u (a0 + (q + 1)) x)) (a0 + q) (.int .i64 1) (by omega) (fun x _ => by
                show Value.int .i64 (metN u (a0 + q + 1) x) = if x = a0 + q then Value.int .i64 1 else .int .i64 (metN u (a0 + q) x)
                rw [metN_put (HP.out.us q hlt2)]
                split <;> rfl)
              have HR5 := hid' hput
              have HB5 := hid' (Below.setCell HBI.out (show w2.heap.size ≤ (⟨w2.heap.size, a0 + q, none⟩ : Addr).block from Nat.le_refl _) (.int .i64 1))
              clear z3 hput
              go_wp2_with fail
              exact ⟨⟨q + 1, (a0 : Int) + (q : Int), by omega, by go_num, rfl, by omega, by omega, HB5, HR5⟩, by simp [intOf]; omega⟩
          · have hq2 : ¬ (q : Int) < (k : Int) := by omega
            have hqk : q = k := by omega
            subst hqk
            go_wp2_with fail
            exact ⟨⟨n + 1, a0 + q, z, by omega, by go_num, rfl, by omega, by omega, HP.out.next, HBI, HRI⟩, by simp [intOf]; omega⟩
    · have hltz : ¬ (n : Int) < ((runsL V u).length : Int) := by omega
      have HRE : Hid (∀ x, x < V.seats.length → wr.cell? ⟨w2.heap.size, x, none⟩ = some (.int .i64 (if isU u x = true then 1 else 0))) := fun x hx => by
        have h1 := (HR.out.2 x (by omega)).1
        have h2 : wr.cell? ⟨w2.heap.size, x, none⟩ = some (.int .i64 (metN u b x)) := h1
        rw [h2, HF.out.done (by rw [← runs_cut HM.out]; exact hlt) x hx]
        unfold metN
        simp only [hx, true_and]
      have HRG : Hid (w2.heap.size < wr.heap.size) := HR.out.1
      have hul := HU3.out.len
      subst hul
      clear HF HR hlt
      generalize wr = wz at *
      obtain ⟨v0, v1, v2, v3, v4⟩ := (HX3.out.next HB.out).five
      go_wp2_with fail
      clear v0 v1 v2 v3 v4
      go_loopw [13, 14] (fun i _ wx => ∃ j : Nat, j ≤ V.seats.length ∧ i = .int .i64 j ∧ Hid (Below wz.heap.size wz wx)) (fun i _ _ => V.seats.length - (intOf i).toNat)
      case atStart => exact ⟨0, Nat.zero_le _, rfl, Below.refl _ _⟩
      case round =>
        obtain ⟨j, hj, rfl, HY⟩ := hrel
        have HBY := hid' (HB.out.trans (HY.out.mono HB.out.size))
        obtain ⟨v0, v1, v2, v3, v4⟩ := (HX3.out.next HBY.out).five
        by_cases hjl : j < V.seats.length
        · have hjz : (j : Int) < (V.seats.length : Int) := by omega
          have d3 : (j : Int) < 40 := by omega
          have c0 : wr.cell? ⟨w2.heap.size, j, none⟩ = some (.int .i64 (if isU u j = true then 1 else 0)) := (HY.out.cell (p := ⟨w2.heap.size, j, none⟩) HRG.out).trans (HRE.out j hjl)
          by_cases hl : j < u.length
          · have hlz : (j : Int) < (u.length : Int) := by omega
            obtain ⟨ub, uo, rfl, hu1, hu2⟩ := (HU3.out.next HBY.out).at j hl
            have e : isU u j = u[j] := by unfold isU; rw [List.getD_eq_getElem?_getD, List.getElem?_eq_getElem hl]; rfl
            rw [e] at c0
            clear e
            generalize u[j] = b1 at *
            clear hl
            cases b1 with
            | true =>
              rw [if_pos rfl] at c0
              go_wp2_with fail
              exact ⟨⟨j + 1, by omega, by go_num, HY⟩, by simp [intOf]; omega⟩
            | false =>
              rw [if_neg (by decide)] at c0
              go_wp2_with fail
              exact ⟨⟨j + 1, by omega, by go_num, HY⟩, by simp [intOf]; omega⟩
          · have hlz : ¬ (j : Int) < (u.length : Int) := by omega
            have e : isU u j = false := by unfold isU; rw [List.getD_eq_getElem?_getD, List.getElem?_eq_none (by omega)]; rfl
            rw [e, if_neg (by decide)] at c0
            clear e hl
            go_wp2_with fail
            exact ⟨⟨j + 1, by omega, by go_num, HY⟩, by simp [intOf]; omega⟩
        · have hjz : ¬ (j : Int) < (V.seats.length : Int) := by omega
          go_wp2_with fail
          refine (told_any _).mono ?_
          rintro e w5 ⟨rfl, hb5⟩
          have HB5 := hid' (HBY.out.trans (hb5.mono HBY.out.size))
          have hmay := rmay_any _ _ _ _ _ _ _ _ _ V w5 (HV3.out.next HB5.out)
          rw [HM.out] at hmay
          clear hb5 v0 v1 v2 v3 v4
          obtain ⟨v0, v1, v2, v3, v4⟩ := (HX3.out.next HB5.out).five
          go_wp2_with fail
          refine hmay.mono ?_
          rintro e w6 ⟨rfl, hb6⟩
          have HF := hid' (HB3.out.trans ((HB5.out.trans (hb6.mono HB5.out.size)).mono HB3.out.size))
          clear hb6 hmay v0 v1 v2 v3 v4
          go_wp2
          go_ret
          exact ⟨rfl, HF.out⟩
end Go.Proofs.Ytdodmbfkcandgaa.Rnn
