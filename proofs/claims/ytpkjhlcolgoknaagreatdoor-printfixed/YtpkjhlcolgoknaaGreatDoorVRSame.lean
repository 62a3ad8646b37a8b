/- parterreref2.Same by its contract. -/
import Derived.Test.YtpkjhlcolgoknaaGreatDoorVEqP
import Derived.Test.YtpkjhlcolgoknaaGreatDoorVRLeaf
namespace Go.Proofs.YtpkjhlcolgoknaaGreatDoor.Ven
set_option linter.unusedVariables false
set_option maxRecDepth 100000
open Go.RowKit Go.Shelf

theorem rsame_0 (a1 a2 a3 b1 b2 b3 : Option Addr) (n1 c1 n2 c2 n3 c3 m1 d1 m2 d2 m3 d3 : Nat) (g1 r1 g2 r2 : Int) (h0 : (g1 == g2) = false) (w : World) :
    Calls Tryz.prog 18 #[venV a1 n1 c1 g1 r1 a2 n2 c2 a3 n3 c3, venV b1 m1 d1 g2 r2 b2 m2 d2 b3 m3 d3] w fun e w' => e = .returned (.bool false) ∧ Below w.heap.size w w' := by
  have nq0 : (g1 != g2) = true := by simp [bne, h0]
  go_enter Tryz.func18, Tryz.ntmps18
  go_wp2
  go_ret
  exact ⟨rfl, ((Below.refl _ w).alloc (Nat.le_refl _) _).alloc (by simp) _⟩
theorem rsame_1 (a1 a2 a3 b1 b2 b3 : Option Addr) (n1 c1 n2 c2 n3 c3 m1 d1 m2 d2 m3 d3 : Nat) (g1 r1 g2 r2 : Int) (h0 : (g1 == g2) = true) (h1 : (r1 == r2) = false) (w : World) :
    Calls Tryz.prog 18 #[venV a1 n1 c1 g1 r1 a2 n2 c2 a3 n3 c3, venV b1 m1 d1 g2 r2 b2 m2 d2 b3 m3 d3] w fun e w' => e = .returned (.bool false) ∧ Below w.heap.size w w' := by
  have nq0 : (g1 != g2) = false := by simp [bne, h0]
  have nq1 : (r1 != r2) = true := by simp [bne, h1]
  go_enter Tryz.func18, Tryz.ntmps18
  go_wp2
  go_ret
  exact ⟨rfl, ((Below.refl _ w).alloc (Nat.le_refl _) _).alloc (by simp) _⟩
theorem rsame_2 (a1 a2 a3 b1 b2 b3 : Option Addr) (n1 c1 n2 c2 n3 c3 m1 d1 m2 d2 m3 d3 : Nat) (g1 r1 g2 r2 : Int) (h0 : (g1 == g2) = true) (h1 : (r1 == r2) = true) (h2 : ((n1 : Int) == (m1 : Int)) = false) (w : World) :
    Calls Tryz.prog 18 #[venV a1 n1 c1 g1 r1 a2 n2 c2 a3 n3 c3, venV b1 m1 d1 g2 r2 b2 m2 d2 b3 m3 d3] w fun e w' => e = .returned (.bool false) ∧ Below w.heap.size w w' := by
  have nq0 : (g1 != g2) = false := by simp [bne, h0]
  have nq1 : (r1 != r2) = false := by simp [bne, h1]
  have nq2 : ((n1 : Int) != (m1 : Int)) = true := by simp [bne, h2]
  go_enter Tryz.func18, Tryz.ntmps18
  go_wp2
  go_ret
  exact ⟨rfl, ((Below.refl _ w).alloc (Nat.le_refl _) _).alloc (by simp) _⟩
theorem rsame_3 (a1 a2 a3 b1 b2 b3 : Option Addr) (n1 c1 n2 c2 n3 c3 m1 d1 m2 d2 m3 d3 : Nat) (g1 r1 g2 r2 : Int) (h0 : (g1 == g2) = true) (h1 : (r1 == r2) = true) (h2 : ((n1 : Int) == (m1 : Int)) = true) (h3 : ((n2 : Int) == (m2 : Int)) = false) (w : World) :
    Calls Tryz.prog 18 #[venV a1 n1 c1 g1 r1 a2 n2 c2 a3 n3 c3, venV b1 m1 d1 g2 r2 b2 m2 d2 b3 m3 d3] w fun e w' => e = .returned (.bool false) ∧ Below w.heap.size w w' := by
  have nq0 : (g1 != g2) = false := by simp [bne, h0]
  have nq1 : (r1 != r2) = false := by simp [bne, h1]
  have nq2 : ((n1 : Int) != (m1 : Int)) = false := by simp [bne, h2]
  have nq3 : ((n2 : Int) != (m2 : Int)) = true := by simp [bne, h3]
  go_enter Tryz.func18, Tryz.ntmps18
  go_wp2
  go_ret
  exact ⟨rfl, ((Below.refl _ w).alloc (Nat.le_refl _) _).alloc (by simp) _⟩
theorem rsame_4 (a1 a2 a3 b1 b2 b3 : Option Addr) (n1 c1 n2 c2 n3 c3 m1 d1 m2 d2 m3 d3 : Nat) (g1 r1 g2 r2 : Int) (h0 : (g1 == g2) = true) (h1 : (r1 == r2) = true) (h2 : ((n1 : Int) == (m1 : Int)) = true) (h3 : ((n2 : Int) == (m2 : Int)) = true) (h4 : ((n3 : Int) == (m3 : Int)) = false) (w : World) :
    Calls Tryz.prog 18 #[venV a1 n1 c1 g1 r1 a2 n2 c2 a3 n3 c3, venV b1 m1 d1 g2 r2 b2 m2 d2 b3 m3 d3] w fun e w' => e = .returned (.bool false) ∧ Below w.heap.size w w' := by
  have nq0 : (g1 != g2) = false := by simp [bne, h0]
  have nq1 : (r1 != r2) = false := by simp [bne, h1]
  have nq2 : ((n1 : Int) != (m1 : Int)) = false := by simp [bne, h2]
  have nq3 : ((n2 : Int) != (m2 : Int)) = false := by simp [bne, h3]
  have nq4 : ((n3 : Int) != (m3 : Int)) = true := by simp [bne, h4]
  go_enter Tryz.func18, Tryz.ntmps18
  go_wp2
  go_ret
  exact ⟨rfl, ((Below.refl _ w).alloc (Nat.le_refl _) _).alloc (by simp) _⟩
theorem same_no (A B : Ven) (h : ¬ A = B) : sameB A B = false := by
  cases hs : sameB A B with
  | false => rfl
  | true => exact absurd ((sameB_iff A B).1 hs) h
set_option maxRecDepth 100000 in
set_option maxHeartbeats 4000000 in
theorem rsame_len (a1 a2 a3 b1 b2 b3 : Option Addr) (c1 c2 c3 d1 d2 d3 : Nat) (g r : Int) (SA SB : List Seat) (KA KB : List Int) (PA PB : List Pole) (hl1 : SA.length = SB.length) (hl2 : KA.length = KB.length) (hl3 : PA.length = PB.length)
    (hm1 : SA.length ≤ 9223372036854775807) (hm2 : KA.length ≤ 9223372036854775807) (hm3 : PA.length ≤ 9223372036854775807) (w : World)
    (s1 : Sl 4 seatC w (.slice a1 SA.length c1) SA) (s2 : Sl 1 intC w (.slice a2 KA.length c2) KA) (s3 : Sl 3 poleC w (.slice a3 PA.length c3) PA)
    (t1 : Sl 4 seatC w (.slice b1 SA.length d1) SB) (t2 : Sl 1 intC w (.slice b2 KA.length d2) KB) (t3 : Sl 3 poleC w (.slice b3 PA.length d3) PB) :
    Calls Tryz.prog 18 #[venV a1 SA.length c1 g r a2 KA.length c2 a3 PA.length c3, venV b1 SA.length d1 g r b2 KA.length d2 b3 PA.length d3] w fun e w' => e = .returned (.bool (sameB ⟨SA, g, r, KA, PA⟩ ⟨SB, g, r, KB, PB⟩)) ∧ Below w.heap.size w w' := by
  have hgu1 : Tryz.prog.eqGuardType Tryz.prog.depth 57 = false := by kernel_rfl
  have hgu2 : Tryz.prog.eqGuardType Tryz.prog.depth 85 = false := by kernel_rfl
  have HL1 : Hid (SA.length = SB.length) := hl1
  have HL2 : Hid (KA.length = KB.length) := hl2
  have HL3 : Hid (PA.length = PB.length) := hl3
  have hbw : Below w.heap.size w ((w.alloc (.cells #[.slice a1 SA.length c1, .int .i64 g, .int .i64 r, .slice a2 KA.length c2, .slice a3 PA.length c3] 33)).alloc (.cells #[.slice b1 SA.length d1, .int .i64 g, .int .i64 r, .slice b2 KA.length d2, .slice b3 PA.length d3] 33)) := ((Below.refl _ w).alloc (Nat.le_refl _) _).alloc (by simp) _
  have HSA1 : Hid (Sl 4 seatC _ _ _) := s1.next hbw
  have HSA2 : Hid (Sl 1 intC _ _ _) := s2.next hbw
  have HSA3 : Hid (Sl 3 poleC _ _ _) := s3.next hbw
  have HSB1 : Hid (Sl 4 seatC _ _ _) := t1.next hbw
  have HSB2 : Hid (Sl 1 intC _ _ _) := t2.next hbw
  have HSB3 : Hid (Sl 3 poleC _ _ _) := t3.next hbw
  have xA := (Box.fresh w 33 #[.slice a1 SA.length c1, .int .i64 g, .int .i64 r, .slice a2 KA.length c2, .slice a3 PA.length c3]).next (below_alloc _ (.cells #[.slice b1 SA.length d1, .int .i64 g, .int .i64 r, .slice b2 KA.length d2, .slice b3 PA.length d3] 33))
  have xB := Box.fresh (w.alloc (.cells #[.slice a1 SA.length c1, .int .i64 g, .int .i64 r, .slice a2 KA.length c2, .slice a3 PA.length c3] 33)) 33 #[.slice b1 SA.length d1, .int .i64 g, .int .i64 r, .slice b2 KA.length d2, .slice b3 PA.length d3]
  simp only [World.size_alloc] at xB
  clear hl1 hl2 hl3 s1 s2 s3 t1 t2 t3
  go_enter Tryz.func18, Tryz.ntmps18
  go_wp2
  generalize ((w.alloc (.cells #[.slice a1 SA.length c1, .int .i64 g, .int .i64 r, .slice a2 KA.length c2, .slice a3 PA.length c3] 33)).alloc (.cells #[.slice b1 SA.length d1, .int .i64 g, .int .i64 r, .slice b2 KA.length d2, .slice b3 PA.length d3] 33)) = W at hbw HSA1 HSA2 HSA3 HSB1 HSB2 HSB3 xA xB ⊢
  have xAl := xA.lt
  have xBl := xB.lt
  go_loopw [5] (fun i wr => ∃ (k q : Nat), k ≤ SA.length ∧ i = .int .i64 k ∧ wr = W.drewN q ∧ Hid (∀ j (hj : j < SA.length) (hj2 : j < SB.length), j < k → SA[j] = SB[j])) (fun i _ => SA.length - (intOf i).toNat)
  case atStart => exact ⟨0, 0, Nat.zero_le _, rfl, rfl, by intro j _ _ hj; omega⟩
  case round =>
    obtain ⟨k1, q1, hk1, rfl, rfl, HA1⟩ := hrel
    by_cases hlt : k1 < SA.length
    · have hltz : (k1 : Int) < (SA.length : Int) := by omega
      have hlt2 : k1 < SB.length := by have := HL1.out; omega
      obtain ⟨ba, oa, rfl, hCa⟩ := cells_of_pos HSA1.out hlt
      obtain ⟨bb, ob, rfl, hCb⟩ := cells_of_pos HSB1.out hlt2
      have xc := xA.cell 0 _ rfl
      have xd := xB.cell 0 _ rfl
      have t1 := hCa.seat k1 hlt
      have t2 := hCb.seat k1 hlt2
      generalize hy1 : SA[k1] = s1 at t1
      generalize hy2 : SB[k1] = s2 at t2
      obtain ⟨rp1, xp1, yp1, kp1⟩ := s1
      obtain ⟨rq1, xq1, yq1, kq1⟩ := s2
      simp only at t1 t2
      obtain ⟨_, e0, e1, e2, e3⟩ := t1
      obtain ⟨_, f0, f1, f2, f3⟩ := t2
      have HY1 : Hid (SA[k1] = ⟨rp1, xp1, yp1, kp1⟩) := hy1
      have HY2 : Hid (SB[k1] = ⟨rq1, xq1, yq1, kq1⟩) := hy2
      clear hy1 hy2 hCa hCb
      by_cases he : (⟨rp1, xp1, yp1, kp1⟩ : Seat) = ⟨rq1, xq1, yq1, kq1⟩
      · have hn' := neq_seat rp1 xp1 yp1 kp1 rq1 xq1 yq1 kq1 true (decide_eq_true he)
        have HE : Hid ((⟨rp1, xp1, yp1, kp1⟩ : Seat) = ⟨rq1, xq1, yq1, kq1⟩) := he
        clear he
        go_wp2_with fail
        go_quiet ((fail))
        go_wp2
        go_roundw
        case rel =>
          refine ⟨k1 + 1, _, by omega, by go_num, rfl, ?_⟩
          show ∀ j (hj : j < SA.length) (hj2 : j < SB.length), j < k1 + 1 → SA[j] = SB[j]
          intro j hj hj2 h
          rcases Nat.lt_or_ge j k1 with h' | h'
          · exact HA1.out j hj hj2 h'
          · have e : j = k1 := by omega
            subst e; exact HY1.out.trans (HE.out.trans HY2.out.symm)
        case measure => simp [intOf]; omega
      · have hn' := neq_seat rp1 xp1 yp1 kp1 rq1 xq1 yq1 kq1 false (decide_eq_false he)
        have HE : Hid (¬ (⟨rp1, xp1, yp1, kp1⟩ : Seat) = ⟨rq1, xq1, yq1, kq1⟩) := he
        clear he
        go_wp2_with fail
        go_quiet ((fail))
        go_wp2
        go_ret
        refine ⟨ret_bool (same_no _ _ ?_).symm, ⟨hbw.os, hbw.tape, hbw.output, hbw.size, hbw.block⟩⟩
        intro hAB
        have hq : SA = SB := congrArg Ven.seats hAB
        subst hq
        exact HE.out (HY1.out.symm.trans HY2.out)
    · have hltz : ¬ (k1 : Int) < (SA.length : Int) := by omega
      have xc := xA.cell 0 _ rfl
      have HEQ1 : Hid (SA = SB) := List.ext_getElem HL1.out fun j hj hj2 => HA1.out j hj hj2 (by omega)
      clear hltz
      go_wp2
      go_loopw [6] (fun i wr => ∃ (k q : Nat), k ≤ KA.length ∧ i = .int .i64 k ∧ wr = W.drewN q ∧ Hid (∀ j (hj : j < KA.length) (hj2 : j < KB.length), j < k → KA[j] = KB[j])) (fun i _ => KA.length - (intOf i).toNat)
      case atStart => exact ⟨0, _, Nat.zero_le _, rfl, rfl, by intro j _ _ hj; omega⟩
      case round =>
        obtain ⟨k2, q2, hk2, rfl, rfl, HA2⟩ := hrel
        by_cases hlt : k2 < KA.length
        · have hltz : (k2 : Int) < (KA.length : Int) := by omega
          have hlt2 : k2 < KB.length := by have := HL2.out; omega
          obtain ⟨ba, oa, rfl, hCa⟩ := cells_of_pos HSA2.out hlt
          obtain ⟨bb, ob, rfl, hCb⟩ := cells_of_pos HSB2.out hlt2
          have xc := xA.cell 3 _ rfl
          have xd := xB.cell 3 _ rfl
          have c1 := hCa.int k2 hlt
          have c2 := hCb.int k2 hlt2
          generalize hy1 : KA[k2] = zp2 at c1
          generalize hy2 : KB[k2] = zq2 at c2
          have HY1 : Hid (KA[k2] = zp2) := hy1
          have HY2 : Hid (KB[k2] = zq2) := hy2
          clear hy1 hy2 hCa hCb
          by_cases he : (zp2 : Int) = zq2
          · have HE : Hid ((zp2 : Int) = zq2) := he
            subst he
            go_wp2_with fail
            go_quiet ((fail))
            go_wp2
            go_roundw
            case rel =>
              refine ⟨k2 + 1, _, by omega, by go_num, rfl, ?_⟩
              show ∀ j (hj : j < KA.length) (hj2 : j < KB.length), j < k2 + 1 → KA[j] = KB[j]
              intro j hj hj2 h
              rcases Nat.lt_or_ge j k2 with h' | h'
              · exact HA2.out j hj hj2 h'
              · have e : j = k2 := by omega
                subst e; exact HY1.out.trans HY2.out.symm
            case measure => simp [intOf]; omega
          · have hz : (zp2 == zq2) = false := by simpa using he
            have HE : Hid (¬ (zp2 : Int) = zq2) := he
            clear he
            go_wp2_with fail
            go_quiet ((fail))
            go_wp2
            go_ret
            refine ⟨ret_bool (same_no _ _ ?_).symm, ⟨hbw.os, hbw.tape, hbw.output, hbw.size, hbw.block⟩⟩
            intro hAB
            have hq : KA = KB := congrArg Ven.kills hAB
            subst hq
            exact HE.out (HY1.out.symm.trans HY2.out)
        · have hltz : ¬ (k2 : Int) < (KA.length : Int) := by omega
          have xc := xA.cell 3 _ rfl
          have HEQ2 : Hid (KA = KB) := List.ext_getElem HL2.out fun j hj hj2 => HA2.out j hj hj2 (by omega)
          clear hltz
          go_wp2
          go_loopw [7] (fun i wr => ∃ (k q : Nat), k ≤ PA.length ∧ i = .int .i64 k ∧ wr = W.drewN q ∧ Hid (∀ j (hj : j < PA.length) (hj2 : j < PB.length), j < k → PA[j] = PB[j])) (fun i _ => PA.length - (intOf i).toNat)
          case atStart => exact ⟨0, _, Nat.zero_le _, rfl, rfl, by intro j _ _ hj; omega⟩
          case round =>
            obtain ⟨k3, q3, hk3, rfl, rfl, HA3⟩ := hrel
            by_cases hlt : k3 < PA.length
            · have hltz : (k3 : Int) < (PA.length : Int) := by omega
              have hlt2 : k3 < PB.length := by have := HL3.out; omega
              obtain ⟨ba, oa, rfl, hCa⟩ := cells_of_pos HSA3.out hlt
              obtain ⟨bb, ob, rfl, hCb⟩ := cells_of_pos HSB3.out hlt2
              have xc := xA.cell 4 _ rfl
              have xd := xB.cell 4 _ rfl
              have t1 := hCa.pole k3 hlt
              have t2 := hCb.pole k3 hlt2
              generalize hy1 : PA[k3] = s1 at t1
              generalize hy2 : PB[k3] = s2 at t2
              obtain ⟨xp3, yp3, rp3⟩ := s1
              obtain ⟨xq3, yq3, rq3⟩ := s2
              simp only at t1 t2
              obtain ⟨_, e0, e1, e2⟩ := t1
              obtain ⟨_, f0, f1, f2⟩ := t2
              have HY1 : Hid (PA[k3] = ⟨xp3, yp3, rp3⟩) := hy1
              have HY2 : Hid (PB[k3] = ⟨xq3, yq3, rq3⟩) := hy2
              clear hy1 hy2 hCa hCb
              by_cases he : (⟨xp3, yp3, rp3⟩ : Pole) = ⟨xq3, yq3, rq3⟩
              · have hn' := neq_pole xp3 yp3 rp3 xq3 yq3 rq3 true (decide_eq_true he)
                have HE : Hid ((⟨xp3, yp3, rp3⟩ : Pole) = ⟨xq3, yq3, rq3⟩) := he
                clear he
                go_wp2_with fail
                go_quiet ((fail))
                go_wp2
                go_roundw
                case rel =>
                  refine ⟨k3 + 1, _, by omega, by go_num, rfl, ?_⟩
                  show ∀ j (hj : j < PA.length) (hj2 : j < PB.length), j < k3 + 1 → PA[j] = PB[j]
                  intro j hj hj2 h
                  rcases Nat.lt_or_ge j k3 with h' | h'
                  · exact HA3.out j hj hj2 h'
                  · have e : j = k3 := by omega
                    subst e; exact HY1.out.trans (HE.out.trans HY2.out.symm)
                case measure => simp [intOf]; omega
              · have hn' := neq_pole xp3 yp3 rp3 xq3 yq3 rq3 false (decide_eq_false he)
                have HE : Hid (¬ (⟨xp3, yp3, rp3⟩ : Pole) = ⟨xq3, yq3, rq3⟩) := he
                clear he
                go_wp2_with fail
                go_quiet ((fail))
                go_wp2
                go_ret
                refine ⟨ret_bool (same_no _ _ ?_).symm, ⟨hbw.os, hbw.tape, hbw.output, hbw.size, hbw.block⟩⟩
                intro hAB
                have hq : PA = PB := congrArg Ven.poles hAB
                subst hq
                exact HE.out (HY1.out.symm.trans HY2.out)
            · have hltz : ¬ (k3 : Int) < (PA.length : Int) := by omega
              have xc := xA.cell 4 _ rfl
              have HEQ3 : Hid (PA = PB) := List.ext_getElem HL3.out fun j hj hj2 => HA3.out j hj hj2 (by omega)
              clear hltz
              go_wp2
              go_ret
              refine ⟨ret_bool ?_, ⟨hbw.os, hbw.tape, hbw.output, hbw.size, hbw.block⟩⟩
              symm
              rw [sameB_iff, HEQ1.out, HEQ2.out, HEQ3.out]
theorem rsame_any (a1 a2 a3 b1 b2 b3 : Option Addr) (n1 c1 n2 c2 n3 c3 m1 d1 m2 d2 m3 d3 : Nat) (A B : Ven) (w : World) (hA : VenAt w a1 n1 c1 a2 n2 c2 a3 n3 c3 A) (hB : VenAt w b1 m1 d1 b2 m2 d2 b3 m3 d3 B) :
    Calls Tryz.prog 18 #[venV a1 n1 c1 A.gap A.radius a2 n2 c2 a3 n3 c3, venV b1 m1 d1 B.gap B.radius b2 m2 d2 b3 m3 d3] w fun e w' => e = .returned (.bool (sameB A B)) ∧ Below w.heap.size w w' := by
  have e1 := hA.s.len
  have e2 := hA.k.len
  have e3 := hA.p.len
  have f1 := hB.s.len
  have f2 := hB.k.len
  have f3 := hB.p.len
  by_cases h0 : A.gap = B.gap
  · have h0' : (A.gap == B.gap) = true := by simpa using h0
    by_cases h1 : A.radius = B.radius
    · have h1' : (A.radius == B.radius) = true := by simpa using h1
      by_cases h2 : n1 = m1
      · have h2' : ((n1 : Int) == (m1 : Int)) = true := by simp; omega
        by_cases h3 : n2 = m2
        · have h3' : ((n2 : Int) == (m2 : Int)) = true := by simp; omega
          by_cases h4 : n3 = m3
          · obtain ⟨SA, g, r, KA, PA⟩ := A
            obtain ⟨SB, g', r', KB, PB⟩ := B
            simp only at h0 h1 e1 e2 e3 f1 f2 f3
            subst h0; subst h1; subst h2; subst h3; subst h4; subst e1; subst e2; subst e3
            exact rsame_len a1 a2 a3 b1 b2 b3 c1 c2 c3 d1 d2 d3 g r SA SB KA KB PA PB f1 f2 f3 hA.s.max hA.k.max hA.p.max w hA.s hA.k hA.p hB.s hB.k hB.p
          · have h4' : ((n3 : Int) == (m3 : Int)) = false := by simp; omega
            rw [same_no A B (fun h => h4 (by rw [e3, f3, h]))]
            exact rsame_4 a1 a2 a3 b1 b2 b3 n1 c1 n2 c2 n3 c3 m1 d1 m2 d2 m3 d3 A.gap A.radius B.gap B.radius h0' h1' h2' h3' h4' w
        · have h3' : ((n2 : Int) == (m2 : Int)) = false := by simp; omega
          rw [same_no A B (fun h => h3 (by rw [e2, f2, h]))]
          exact rsame_3 a1 a2 a3 b1 b2 b3 n1 c1 n2 c2 n3 c3 m1 d1 m2 d2 m3 d3 A.gap A.radius B.gap B.radius h0' h1' h2' h3' w
      · have h2' : ((n1 : Int) == (m1 : Int)) = false := by simp; omega
        rw [same_no A B (fun h => h2 (by rw [e1, f1, h]))]
        exact rsame_2 a1 a2 a3 b1 b2 b3 n1 c1 n2 c2 n3 c3 m1 d1 m2 d2 m3 d3 A.gap A.radius B.gap B.radius h0' h1' h2' w
    · have h1' : (A.radius == B.radius) = false := by simpa using h1
      rw [same_no A B (fun h => h1 (by rw [h]))]
      exact rsame_1 a1 a2 a3 b1 b2 b3 n1 c1 n2 c2 n3 c3 m1 d1 m2 d2 m3 d3 A.gap A.radius B.gap B.radius h0' h1' w
  · have h0' : (A.gap == B.gap) = false := by simpa using h0
    rw [same_no A B (fun h => h0 (by rw [h]))]
    exact rsame_0 a1 a2 a3 b1 b2 b3 n1 c1 n2 c2 n3 c3 m1 d1 m2 d2 m3 d3 A.gap A.radius B.gap B.radius h0' w
end Go.Proofs.YtpkjhlcolgoknaaGreatDoor.Ven
