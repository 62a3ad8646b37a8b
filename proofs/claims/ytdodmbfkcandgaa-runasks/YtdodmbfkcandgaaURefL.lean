/- parterreref6.Next, long, Long by contracts. -/
import Derived.Test.YtdodmbfkcandgaaURef
namespace Go.Proofs.Ytdodmbfkcandgaa.Rnn
set_option linter.unusedVariables false
set_option maxRecDepth 100000
open Go.RowKit Go.Shelf
open Go.Proofs.Ytdodmbfkcandgaa.Ven (Seat Pole Ven VenAt venV seatV Box mayB mixed Sl SeatAt below_alloc ret_bool ret_int rmay_any)

theorem nextI_may {V : Ven} {a : Int} (h : mayB V = true) : nextI V a = nextB V a := by
  unfold nextI nextB; rw [h, Bool.true_and]
set_option maxHeartbeats 4000000 in
theorem rnexts_any (a1 a2 a3 : Option Addr) (n1 c1 n2 c2 n3 c3 : Nat) (V : Ven) (a : Int) (w : World) (h : VenAt w a1 n1 c1 a2 n2 c2 a3 n3 c3 V) :
    Calls Try.prog 12 #[venV a1 n1 c1 V.gap V.radius a2 n2 c2 a3 n3 c3, .int .i64 a] w fun e w' => e = .returned (.bool (nextB V a)) ∧ Below w.heap.size w w' := by
  have hb0 := below_alloc w (.cells #[.slice a1 n1 c1, .int .i64 V.gap, .int .i64 V.radius, .slice a2 n2 c2, .slice a3 n3 c3] 26)
  have hx := Box.fresh w 26 #[.slice a1 n1 c1, .int .i64 V.gap, .int .i64 V.radius, .slice a2 n2 c2, .slice a3 n3 c3]
  have hn := h.s.len
  subst hn
  have hmay := rmay_any a1 a2 a3 V.seats.length c1 n2 c2 n3 c3 V _ (h.next hb0)
  have HN : Hid (mayB V = true → ∀ W, Below w.heap.size w W → Calls Try.prog 25 #[venV a1 V.seats.length c1 V.gap V.radius a2 n2 c2 a3 n3 c3, .int .i64 a] W fun e w' => e = .returned (.bool (nextB V a)) ∧ Below W.heap.size W w') := fun h1 W hW => by
    have := rnext_any a1 a2 a3 V.seats.length c1 n2 c2 n3 c3 V a (may_well h1) W (h.next hW)
    rw [nextI_may h1] at this
    exact this
  have HNO : Hid (mayB V = false → nextB V a = false) := fun hm => by unfold nextB; rw [hm]; simp
  have HBIG : Hid (¬ a < 4611686018427387904 → nextB V a = false) := fun hm => by
    cases hmm : mayB V with
    | false => unfold nextB; rw [hmm]; simp
    | true =>
      have hf := (may_well hmm).few
      exact nextB_off (by omega)
  obtain ⟨v0, v1, v2, v3, v4⟩ := hx.five
  clear h
  generalize nextB V a = ans at *
  generalize mayB V = m at *
  generalize V.radius = rad at *
  generalize V.gap = gap at *
  generalize V.seats.length = n at *
  by_cases hbig : a < 4611686018427387904
  · go_enter Try.func12, Try.ntmps12
    go_wp2_with fail
    refine hmay.mono ?_
    rintro e w1 ⟨rfl, hb1⟩
    have hB1 := hb0.trans (hb1.mono hb0.size)
    have hx1 := hx.next hb1
    clear hx v0 v1 v2 v3 v4 hb0 hb1 hmay
    cases m with
    | false =>
      obtain rfl := HNO.out (by trivial)
      have HB := hid' hB1
      clear hB1 hx1
      go_wp2
      go_ret
      exact ⟨rfl, HB.out⟩
    | true =>
      obtain ⟨v0, v1, v2, v3, v4⟩ := hx1.five
      go_wp2_with fail
      refine (HN.out (by trivial) _ hB1).mono ?_
      rintro e w2 ⟨rfl, hb2⟩
      have HB := hid' (hB1.trans (hb2.mono hB1.size))
      clear hx1 v0 v1 v2 v3 v4 hB1 hb2
      go_wp2
      go_ret
      exact ⟨rfl, HB.out⟩
  · obtain rfl := HBIG.out hbig
    go_enter Try.func12, Try.ntmps12
    go_wp2
    go_ret
    exact ⟨rfl, hb0⟩
set_option maxHeartbeats 4000000 in
theorem rlong_any (a1 a2 a3 u1 : Option Addr) (n1 c1 n2 c2 n3 c3 un uc : Nat) (V : Ven) (u : List Bool) (a : Int) (hm : mayB V = true) (w : World) (h : VenAt w a1 n1 c1 a2 n2 c2 a3 n3 c3 V) (hu : MarksAt w u1 un uc u) :
    Calls Try.prog 27 #[venV a1 n1 c1 V.gap V.radius a2 n2 c2 a3 n3 c3, .slice u1 un uc, .int .i64 a] w fun e w' => e = .returned (.int .i64 (longB V u a)) ∧ Below w.heap.size w w' := by
  have hb0 := below_alloc w (.cells #[.slice a1 n1 c1, .int .i64 V.gap, .int .i64 V.radius, .slice a2 n2 c2, .slice a3 n3 c3] 26)
  have hx := Box.fresh w 26 #[.slice a1 n1 c1, .int .i64 V.gap, .int .i64 V.radius, .slice a2 n2 c2, .slice a3 n3 c3]
  have hn := h.s.len
  subst hn
  have hW := may_well hm
  have HNX : Hid (∀ W, Below w.heap.size w W → ∀ b : Int, Calls Try.prog 25 #[venV a1 V.seats.length c1 V.gap V.radius a2 n2 c2 a3 n3 c3, .int .i64 b] W fun e w' => e = .returned (.bool (nextI V b)) ∧ Below W.heap.size W w') := fun W hb b => rnext_any a1 a2 a3 V.seats.length c1 n2 c2 n3 c3 V b hW W (h.next hb)
  have HIS : Hid (∀ W, Below w.heap.size w W → ∀ b : Int, Calls Try.prog 32 #[.slice u1 un uc, .int .i64 b] W fun e w' => e = .returned (.bool (isI u b)) ∧ Below W.heap.size W w') := fun W hb b => ris_any u1 un uc b u W (hu.next hb)
  have hseat := rseat_any a1 a2 a3 V.seats.length c1 n2 c2 n3 c3 V.gap V.radius a
  obtain ⟨v0, v1, v2, v3, v4⟩ := hx.five
  have hf := hW.few
  clear h hu hW
  by_cases hs : 0 ≤ a ∧ a < (V.seats.length : Int)
  · rw [decide_eq_true hs] at hseat
    obtain ⟨k, rfl, hk⟩ : ∃ k : Nat, a = (k : Int) ∧ k < V.seats.length := ⟨a.toNat, by omega, by omega⟩
    have e1 : isI u k = isU u k := by unfold isI; rw [decide_eq_true hs.1]; simp
    cases hiu : isU u k with
    | false =>
      have HE : Hid (longB V u k = 0) := longB_no (by rw [usB_nat u hk]; exact hiu)
      have HI : Hid (∀ W, Below w.heap.size w W → Calls Try.prog 32 #[.slice u1 un uc, .int .i64 k] W fun e w' => e = .returned (.bool false) ∧ Below W.heap.size W w') := fun W hb => by
        have := HIS.out W hb k
        rw [e1, hiu] at this; exact this
      generalize longB V u k = ans at *
      obtain rfl := HE.out
      clear hm hs hk e1 hiu HNX HIS hf
      generalize V.seats.length = n at *
      generalize V.radius = rad at *
      generalize V.gap = gap at *
      go_enter Try.func27, Try.ntmps27
      go_wp2_with fail
      refine (hseat _).mono ?_
      rintro e w1 ⟨rfl, hb1⟩
      have hB1 := hb0.trans (hb1.mono hb0.size)
      clear hx v0 v1 v2 v3 v4 hb0 hb1 hseat
      go_wp2_with fail
      refine (HI.out _ hB1).mono ?_
      rintro e w2 ⟨rfl, hb2⟩
      have HB := hid' (hB1.trans (hb2.mono hB1.size))
      clear hB1 hb2
      go_wp2
      go_ret
      exact ⟨rfl, HB.out⟩
    | true =>
      have HE := hid' (longB_yes hm hk hiu)
      have HI : Hid (∀ W, Below w.heap.size w W → Calls Try.prog 32 #[.slice u1 un uc, .int .i64 k] W fun e w' => e = .returned (.bool true) ∧ Below W.heap.size W w') := fun W hb => by
        have := HIS.out W hb k
        rw [e1, hiu] at this; exact this
      have HIU := hid' hiu
      generalize longB V u k = ans at *
      clear hm hs e1 hiu
      go_enter Try.func27, Try.ntmps27
      go_wp2_with fail
      refine (hseat _).mono ?_
      rintro e w1 ⟨rfl, hb1⟩
      have hB1 := hb0.trans (hb1.mono hb0.size)
      have hx1 := hx.next hb1
      clear hx v0 v1 v2 v3 v4 hb0 hb1 hseat
      go_wp2_with fail
      refine (HI.out _ hB1).mono ?_
      rintro e w2 ⟨rfl, hb2⟩
      have HB2 := hid' (hB1.trans (hb2.mono hB1.size))
      have HX2 := hid' (hx1.next hb2)
      clear hx1 hB1 hb2 HI
      go_wp2_with fail
      go_loopw [7] (fun i wr => ∃ j : Nat, 1 ≤ j ∧ k + j ≤ V.seats.length ∧ i = .int .i64 j ∧ Hid (Below w2.heap.size w2 wr) ∧ Hid (∀ q, q + 1 < j → goB V.seats V.gap u (k + q) = true)) (fun i _ => V.seats.length - (intOf i).toNat)
      case atStart => exact ⟨1, Nat.le_refl _, by omega, rfl, Below.refl _ _, fun q hq => absurd hq (by omega)⟩
      case round =>
        obtain ⟨j, hj1, hj2, rfl, HB, HG⟩ := hrel
        obtain ⟨v0, v1, v2, v3, v4⟩ := (HX2.out.next HB.out).five
        have hwr : IntKind.i64.wrap ((k : Int) + (j : Int)) = (k : Int) + (j : Int) := by rw [IntKind.wrap_i64] <;> omega
        have hws : IntKind.i64.wrap ((k : Int) + (j : Int) - 1) = (k : Int) + (j : Int) - 1 := by rw [IntKind.wrap_i64] <;> omega
        have HBW := hid' (HB2.out.trans (HB.out.mono HB2.out.size))
        have HC := hid' (HNX.out wr HBW.out ((k : Int) + (j : Int) - 1))
        have HD : Hid (∀ W, Below wr.heap.size wr W → Calls Try.prog 32 #[.slice u1 un uc, .int .i64 ((k : Int) + (j : Int))] W fun e w' => e = .returned (.bool (isI u ((k : Int) + (j : Int)))) ∧ Below W.heap.size W w') := fun W hb => HIS.out W (HBW.out.trans (hb.mono HBW.out.size)) _
        have HG2 : Hid (goB V.seats V.gap u (k + (j - 1)) = (nextI V ((k : Int) + (j : Int) - 1) && isI u ((k : Int) + (j : Int)))) := by
          show goB _ _ _ _ = _
          unfold goB nextI isI
          rw [decide_eq_true (show 0 ≤ (k : Int) + (j : Int) - 1 by omega), decide_eq_true (show 0 ≤ (k : Int) + (j : Int) by omega), show ((k : Int) + (j : Int) - 1).toNat = k + (j - 1) by omega, show ((k : Int) + (j : Int)).toNat = k + (j - 1) + 1 by omega]
          rfl
        have HEND : Hid (goB V.seats V.gap u (k + (j - 1)) = false → ans = (j : Int)) := fun hg => by
          rw [HE.out, runN_is _ _ _ (j - 1) (by omega) (fun q hq => HG.out q (by omega)) hg, show j - 1 + 1 = j by omega]
        generalize nextI V ((k : Int) + (j : Int) - 1) = z1 at *
        generalize isI u ((k : Int) + (j : Int)) = z2 at *
        go_wp2_with fail
        refine HC.out.mono ?_
        rintro e w3 ⟨rfl, hb3⟩
        have HB3 := hid' (HB.out.trans (hb3.mono HB.out.size))
        have HD3 := hid' (HD.out w3 hb3)
        clear v0 v1 v2 v3 v4 hb3 HC HB HD
        cases z1 with
        | false =>
          have HF := hid' (HEND.out (by rw [HG2.out]; rfl))
          have HBE := hid' (HB2.out.trans (HB3.out.mono HB2.out.size))
          clear HG HG2 HEND HD3 hwr hws
          go_wp2
          go_ret
          exact ⟨ret_int HF.out.symm, HBE.out⟩
        | true =>
          go_wp2_with fail
          refine HD3.out.mono ?_
          rintro e w4 ⟨rfl, hb4⟩
          have HB4 := hid' (HB3.out.trans (hb4.mono HB3.out.size))
          clear hb4 HB3 HD3
          cases z2 with
          | false =>
            have HF := hid' (HEND.out (by rw [HG2.out]; rfl))
            have HBE := hid' (HB2.out.trans (HB4.out.mono HB2.out.size))
            clear HG HG2 HEND hwr hws
            go_wp2
            go_ret
            exact ⟨ret_int HF.out.symm, HBE.out⟩
          | true =>
            have hg : goB V.seats V.gap u (k + (j - 1)) = true := by rw [HG2.out]; rfl
            have hlt := goB_lt _ hg
            have HGN : Hid (∀ q, q + 1 < j + 1 → goB V.seats V.gap u (k + q) = true) := fun q hq => by
              rcases Nat.lt_or_ge (q + 1) j with h | h
              · exact HG.out q h
              · rw [show q = j - 1 by omega]; exact hg
            clear hg HG HG2 HEND hwr hws
            go_wp2_with fail
            exact ⟨⟨j + 1, by omega, by omega, by go_num, HB4, HGN⟩, by simp [intOf]; omega⟩
  · rw [decide_eq_false hs] at hseat
    have HE : Hid (longB V u a = 0) := longB_no (usB_off u hs)
    generalize longB V u a = ans at *
    obtain rfl := HE.out
    clear hm hs HNX HIS hf
    generalize V.seats.length = n at *
    generalize V.radius = rad at *
    generalize V.gap = gap at *
    go_enter Try.func27, Try.ntmps27
    go_wp2_with fail
    refine (hseat _).mono ?_
    rintro e w1 ⟨rfl, hb1⟩
    have HB := hid' (hb0.trans (hb1.mono hb0.size))
    clear hx v0 v1 v2 v3 v4 hb0 hb1 hseat
    go_wp2
    go_ret
    exact ⟨rfl, HB.out⟩
set_option maxHeartbeats 4000000 in
theorem rlongs_any (a1 a2 a3 u1 : Option Addr) (n1 c1 n2 c2 n3 c3 un uc : Nat) (V : Ven) (u : List Bool) (a : Int) (w : World) (h : VenAt w a1 n1 c1 a2 n2 c2 a3 n3 c3 V) (hu : MarksAt w u1 un uc u) :
    Calls Try.prog 14 #[venV a1 n1 c1 V.gap V.radius a2 n2 c2 a3 n3 c3, .slice u1 un uc, .int .i64 a] w fun e w' => e = .returned (.int .i64 (longB V u a)) ∧ Below w.heap.size w w' := by
  have hb0 := below_alloc w (.cells #[.slice a1 n1 c1, .int .i64 V.gap, .int .i64 V.radius, .slice a2 n2 c2, .slice a3 n3 c3] 26)
  have hx := Box.fresh w 26 #[.slice a1 n1 c1, .int .i64 V.gap, .int .i64 V.radius, .slice a2 n2 c2, .slice a3 n3 c3]
  have hmay := rmay_any a1 a2 a3 n1 c1 n2 c2 n3 c3 V _ (h.next hb0)
  have HL : Hid (mayB V = true → ∀ W, Below w.heap.size w W → Calls Try.prog 27 #[venV a1 n1 c1 V.gap V.radius a2 n2 c2 a3 n3 c3, .slice u1 un uc, .int .i64 a] W fun e w' => e = .returned (.int .i64 (longB V u a)) ∧ Below W.heap.size W w') := fun hm W hW => rlong_any a1 a2 a3 u1 n1 c1 n2 c2 n3 c3 un uc V u a hm W (h.next hW) (hu.next hW)
  have HNO : Hid (mayB V = false → longB V u a = 0) := fun hm => longB_not hm
  obtain ⟨v0, v1, v2, v3, v4⟩ := hx.five
  clear h hu
  generalize longB V u a = ans at *
  generalize mayB V = m at *
  generalize V.radius = rad at *
  generalize V.gap = gap at *
  go_enter Try.func14, Try.ntmps14
  go_wp2_with fail
  refine hmay.mono ?_
  rintro e w1 ⟨rfl, hb1⟩
  have hB1 := hb0.trans (hb1.mono hb0.size)
  have hx1 := hx.next hb1
  clear hx v0 v1 v2 v3 v4 hb0 hb1 hmay
  cases m with
  | false =>
    obtain rfl := HNO.out (by trivial)
    have HB := hid' hB1
    clear hB1 hx1
    go_wp2
    go_ret
    exact ⟨rfl, HB.out⟩
  | true =>
    obtain ⟨v0, v1, v2, v3, v4⟩ := hx1.five
    go_wp2_with fail
    refine (HL.out (by trivial) _ hB1).mono ?_
    rintro e w2 ⟨rfl, hb2⟩
    have HB := hid' (hB1.trans (hb2.mono hB1.size))
    clear hx1 v0 v1 v2 v3 v4 hB1 hb2
    go_wp2
    go_ret
    exact ⟨rfl, HB.out⟩
end Go.Proofs.Ytdodmbfkcandgaa.Rnn
