/- parterreref2.Print by its contract. -/
import Derived.Test.YtpkjhlcolgoknaaDoorQRefS
import Derived.Test.YtpkjhlcolgoknaaDoorQRefK
namespace Go.Proofs.YtpkjhlcolgoknaaDoor.Prn
set_option linter.unusedVariables false
set_option maxRecDepth 100000
open Go.RowKit Go.Shelf
open Go.Proofs.YtpkjhlcolgoknaaDoor.Ven (Seat Pole Ven VenAt venV Box mayB mixed SeatAt below_alloc putAll)

attribute [local go_sem] bapp
theorem drewN_past (w : World) (n : Nat) : Below w.heap.size w (w.drewN n) := ⟨rfl, rfl, rfl, Nat.le_refl _, fun _ _ => rfl⟩
set_option maxHeartbeats 1000000 in
theorem rprint_no (a1 a2 a3 : Option Addr) (n1 c1 n2 c2 n3 c3 : Nat) (V : Ven) (w : World) (h : VenAt w a1 n1 c1 a2 n2 c2 a3 n3 c3 V) (hm : mayB V = false) :
    Calls Tryd.prog 9 #[venV a1 n1 c1 V.gap V.radius a2 n2 c2 a3 n3 c3] w fun e w' => e = .returned (.tuple #[.string ⟨#[]⟩, .int .i64 1]) ∧ Below w.heap.size w w' := by
  have hb := below_alloc w (.cells #[.slice a1 n1 c1, .int .i64 V.gap, .int .i64 V.radius, .slice a2 n2 c2, .slice a3 n3 c3] 26)
  have hmay := Ven.rmay_any a1 a2 a3 n1 c1 n2 c2 n3 c3 V _ (h.next hb)
  rw [hm] at hmay
  generalize V.gap = gap at hmay hb ⊢
  generalize V.radius = radius at hmay hb ⊢
  go_enter Tryd.func9, Tryd.ntmps9
  go_wp2_with fail
  refine hmay.mono ?_
  rintro e w1 ⟨rfl, hb1⟩
  go_wp2
  go_ret2
  exact ⟨rfl, hb.trans (hb1.mono hb.size)⟩
theorem killLn_eq (S : List Seat) (k : Int) (q : Nat) (hq : k = q) (hn : q < S.length) : killLn S k = [107, 105, 108, 108, 32] ++ (Lib.itoa S[q].row ++ 32 :: (Lib.itoa S[q].x ++ [10])) := by
  subst hq
  unfold killLn
  rw [Int.toNat_natCast, getElem!_pos S q hn]
  simp [factL, numsL, tKill]
theorem poleLn_eq (p : Pole) : poleLn p = [112, 111, 108, 101, 32] ++ (Lib.itoa p.x ++ 32 :: (Lib.itoa p.y ++ 32 :: (Lib.itoa p.r ++ [10]))) := by
  simp [poleLn, factL, numsL, tPole]
theorem killLn_len {V : Ven} (hV : MayV V) (z : Int) (hz : z ∈ V.kills) : (killLn V.seats z).length ≤ 60 := by
  obtain ⟨z0, z1⟩ := hV.kill z hz
  have hzn : z.toNat < V.seats.length := by omega
  obtain ⟨j0, j1, j2⟩ := hV.seat _ (List.getElem_mem hzn)
  have := factL_len tKill [V.seats[z.toNat].row, V.seats[z.toNat].x] (by intro n hn; simp only [List.mem_cons, List.not_mem_nil, or_false] at hn; rcases hn with rfl | rfl <;> assumption)
  unfold killLn
  rw [getElem!_pos V.seats z.toNat hzn, List.length_append, List.length_singleton]
  simp only [tKill, List.length_cons, List.length_nil] at this ⊢
  omega
theorem poleLn_len {V : Ven} (hV : MayV V) (z : Pole) (hz : z ∈ V.poles) : (poleLn z).length ≤ 80 := by
  obtain ⟨j0, j1, j2⟩ := hV.pole z hz
  have := factL_len tPole [z.x, z.y, z.r] (by intro n hn; simp only [List.mem_cons, List.not_mem_nil, or_false] at hn; rcases hn with rfl | rfl | rfl <;> assumption)
  unfold poleLn
  rw [List.length_append, List.length_singleton]
  simp only [tPole, List.length_cons, List.length_nil] at this ⊢
  omega
theorem seatLn_len {V : Ven} (hV : MayV V) (s : Seat) (hs : s ∈ V.seats) : (seatLn s).length ≤ 76 := by
  obtain ⟨j0, j1, j2⟩ := hV.seat s hs
  have := seatL_len s j0 j1 j2
  unfold seatLn; rw [List.length_append, List.length_singleton]; omega
set_option maxHeartbeats 8000000 in
theorem rprint_yes (a1 a2 a3 : Option Addr) (n1 c1 n2 c2 n3 c3 : Nat) (V : Ven) (w : World) (h : VenAt w a1 n1 c1 a2 n2 c2 a3 n3 c3 V) (hm : mayB V = true) :
    Calls Tryd.prog 9 #[venV a1 n1 c1 V.gap V.radius a2 n2 c2 a3 n3 c3] w fun e w' => e = .returned (.tuple #[.string ⟨(printL V).toArray⟩, .int .i64 0]) ∧ Below w.heap.size w w' := by
  obtain rfl : n1 = V.seats.length := h.s.len
  obtain rfl : n2 = V.kills.length := h.k.len
  obtain rfl : n3 = V.poles.length := h.p.len
  have hb := below_alloc w (.cells #[.slice a1 V.seats.length c1, .int .i64 V.gap, .int .i64 V.radius, .slice a2 V.kills.length c2, .slice a3 V.poles.length c3] 26)
  have hmay := Ven.rmay_any a1 a2 a3 _ c1 _ c2 _ c3 V _ (h.next hb)
  rw [hm] at hmay
  have HV : Hid (MayV V) := may_v hm
  have hn1 := HV.out.n1
  have hn2 := HV.out.n2
  have HX := Box.fresh w 26 #[.slice a1 V.seats.length c1, .int .i64 V.gap, .int .i64 V.radius, .slice a2 V.kills.length c2, .slice a3 V.poles.length c3]
  obtain ⟨sb, so, rfl, _, _⟩ := sl_addr h.s (by omega)
  have HA : Hid (VenAt w (some ⟨sb, so, none⟩) V.seats.length c1 a2 V.kills.length c2 a3 V.poles.length c3 V) := h
  have hg1 := HV.out.gap
  have hg2 := HV.out.radius
  have HPL : Hid (printL V = ([103, 97, 112, 32] ++ (Lib.itoa V.gap ++ ([10, 114, 97, 100, 105, 117, 115, 32] ++ (Lib.itoa V.radius ++ [10])))) ++ V.seats.flatMap seatLn ++ V.kills.flatMap (killLn V.seats) ++ V.poles.flatMap poleLn) := by
    show _ = _
    simp [printL, headL, factL, numsL, tGap, tRadius]
  clear hm h
  generalize V.gap = gap at hmay hb HX hg1 HPL ⊢
  generalize V.radius = radius at hmay hb HX hg2 HPL ⊢
  have cg : Hid (∀ w, Calls Tryd.prog 15 #[.int .i64 gap] w fun e w' => e = .returned (.string ⟨(Lib.itoa gap).toArray⟩) ∧ w' = w) := fun w => dec_any gap hg1 w
  have cr : Hid (∀ w, Calls Tryd.prog 15 #[.int .i64 radius] w fun e w' => e = .returned (.string ⟨(Lib.itoa radius).toArray⟩) ∧ w' = w) := fun w => dec_any radius hg2 w
  have lg := itoa_len gap hg1
  have lr := itoa_len radius hg2
  generalize Lib.itoa gap = G at cg lg HPL
  generalize Lib.itoa radius = R at cr lr HPL
  clear hg1 hg2
  go_enter Tryd.func9, Tryd.ntmps9
  go_wp2_with fail
  refine hmay.mono ?_
  rintro e w1 ⟨rfl, hb1⟩
  have HB1 : Hid (Below w.heap.size w w1) := hb.trans (hb1.mono hb.size)
  have HX1 : Hid (Box w1 w.heap.size 26 #[.slice (some ⟨sb, so, none⟩) V.seats.length c1, .int .i64 gap, .int .i64 radius, .slice a2 V.kills.length c2, .slice a3 V.poles.length c3]) := HX.next hb1
  clear hb1 hb HX hmay
  have HXW : Hid (∀ W, Below w1.heap.size w1 W → Box W w.heap.size 26 #[.slice (some ⟨sb, so, none⟩) V.seats.length c1, .int .i64 gap, .int .i64 radius, .slice a2 V.kills.length c2, .slice a3 V.poles.length c3]) := fun W hW => HX1.out.next hW
  have HAW : Hid (∀ W, Below w1.heap.size w1 W → VenAt W (some ⟨sb, so, none⟩) V.seats.length c1 a2 V.kills.length c2 a3 V.poles.length c3 V) := fun W hW => HA.out.next (HB1.out.trans (hW.mono HB1.out.size))
  obtain ⟨v0, v1, v2, v3, v4⟩ := HX1.out.five
  have vl := HX1.out.lt
  go_wp2_with fail
  refine wp_region_quiet_lit (by kernel_rfl) (by kernel_rfl) ?_
  go_big_quiet_step (fail)
  go_big_quiet_step (fail)
  go_big_quiet_step ((go_at_call 15; exact Calls.quiet_of_same (cg.out _)))
  go_big_quiet_step (fail)
  go_big_quiet_step (fail)
  go_big_quiet_step (fail)
  go_big_quiet_step (fail)
  go_big_quiet_step ((go_at_call 15; exact Calls.quiet_of_same (cr.out _)))
  go_big_quiet_step (fail)
  go_big_quiet_step (fail)
  go_big_quiet_step (fail)
  refine wpQuiet_nil ?_
  rintro _ ⟨nq, rfl⟩
  have HS0 : Hid (Below w1.heap.size w1 (w1.drewN nq)) := drewN_past w1 nq
  clear v0 v1 v2 v3 v4 vl HX1
  generalize w1.drewN nq = w2 at HS0 ⊢
  obtain ⟨H, hH⟩ : ∃ H, H = ([103, 97, 112, 32] ++ (G ++ ([10, 114, 97, 100, 105, 117, 115, 32] ++ (R ++ [10])))) := ⟨_, rfl⟩
  have HH : Hid (H = ([103, 97, 112, 32] ++ (G ++ ([10, 114, 97, 100, 105, 117, 115, 32] ++ (R ++ [10]))))) := hH
  have hHl : H.length ≤ 100 := by rw [hH]; simp; omega
  rw [← hH] at HPL
  clear hH cg cr
  go_wp2_with fail
  go_loopw [4, 5] (fun s i wr => ∃ k : Nat, k ≤ V.seats.length ∧ i = .int .i64 k ∧ s = .string ⟨(H ++ (V.seats.take k).flatMap seatLn).toArray⟩ ∧ Hid (Below w1.heap.size w1 wr)) (fun _ i _ => V.seats.length - (intOf i).toNat)
  case atStart => exact ⟨0, Nat.zero_le _, rfl, by rw [HH.out]; simp, HS0⟩
  case round =>
    clear HS0 HH
    obtain ⟨k, hk, rfl, rfl, HS⟩ := hrel
    obtain ⟨v0, v1, v2, v3, v4⟩ := (HXW.out _ HS.out).five
    have vl := (HXW.out _ HS.out).lt
    by_cases hlt : k < V.seats.length
    · have hltz : (k : Int) < (V.seats.length : Int) := by omega
      obtain ⟨sl, c0, c1', c2', c3'⟩ := ((HAW.out _ HS.out).s.some_cells (by omega) : Ven.Cells 4 Ven.seatC wr sb so V.seats).seat k hlt
      obtain ⟨i0, i1, i2⟩ := HV.out.seat _ (List.getElem_mem hlt)
      have HXX : Hid ((V.seats.take (k + 1)).flatMap seatLn = (V.seats.take k).flatMap seatLn ++ (seatL V.seats[k] ++ [10])) := flat_take _ _ _ hlt
      have hsl := seatL_len V.seats[k] i0 i1 i2
      have hYl : (H ++ (V.seats.take k).flatMap seatLn).length ≤ 1000000 := by
        have h1 := flat_bound seatLn 76 (V.seats.take k) (fun s hs => seatLn_len HV.out s (List.mem_of_mem_take hs))
        rw [List.length_append]
        rw [List.length_take] at h1; omega
      have HSE : Hid (∀ W, Calls Tryd.prog 11 #[.agg #[.int .i64 V.seats[k].row, .int .i64 V.seats[k].x, .int .i64 V.seats[k].y, .int .i64 V.seats[k].kind]] W fun e w' => e = .returned (.string ⟨(seatL V.seats[k]).toArray⟩) ∧ Below W.heap.size W w') := fun W => rseat_any V.seats[k] i0 i1 i2 W
      clear i0 i1 i2
      generalize seatL V.seats[k] = L at HSE HXX hsl
      generalize V.seats[k].row = r at c0 HSE
      generalize V.seats[k].x = x at c1' HSE
      generalize V.seats[k].y = y at c2' HSE
      generalize V.seats[k].kind = kk at c3' HSE
      have HJ : Hid (H ++ (V.seats.take (k + 1)).flatMap seatLn = (H ++ (V.seats.take k).flatMap seatLn) ++ (L ++ [10])) := by
        show _ = _
        rw [HXX.out, List.append_assoc]
      clear HXX
      generalize hY : H ++ (V.seats.take k).flatMap seatLn = Y at hYl HJ
      clear hY
      go_wp2_with fail
      refine (HSE.out wr).mono ?_
      rintro e w3 ⟨rfl, hb3⟩
      have HS3 : Hid (Below w1.heap.size w1 w3) := HS.out.trans (hb3.mono HS.out.size)
      clear hb3 c0 c1' c2' c3' sl v0 v1 v2 v3 v4 vl HS HSE
      go_wp2_with fail
      go_roundw
      case rel => exact ⟨k + 1, by omega, by go_num, by rw [HJ.out], HS3⟩
      case measure => simp [intOf]; omega
    · have hltz : ¬ (k : Int) < (V.seats.length : Int) := by omega
      have HXX : Hid (V.seats.take k = V.seats) := List.take_of_length_le (by omega)
      rw [HXX.out]
      have hYl : (H ++ V.seats.flatMap seatLn).length ≤ 1000000 := by
        have h1 := flat_bound seatLn 76 V.seats (fun s hs => seatLn_len HV.out s hs)
        rw [List.length_append]; omega
      clear HXX
      generalize H ++ V.seats.flatMap seatLn = Y at hYl HPL
      go_wp2_with fail
      clear v0 v1 v2 v3 v4 vl
      go_loopw [4, 6] (fun s i wr => ∃ k : Nat, k ≤ V.kills.length ∧ i = .int .i64 k ∧ s = .string ⟨(Y ++ (V.kills.take k).flatMap (killLn V.seats)).toArray⟩ ∧ Hid (Below w1.heap.size w1 wr)) (fun _ i _ => V.kills.length - (intOf i).toNat)
      case atStart => exact ⟨0, Nat.zero_le _, rfl, by simp, HS⟩
      case round =>
        clear HS
        obtain ⟨m, hm, rfl, rfl, HS⟩ := hrel
        have hkn := HV.out.kn
        obtain ⟨v0, v1, v2, v3, v4⟩ := (HXW.out _ HS.out).five
        have vl := (HXW.out _ HS.out).lt
        by_cases hlm : m < V.kills.length
        · have hlmz : (m : Int) < (V.kills.length : Int) := by omega
          obtain ⟨kb, ko, rfl, _, hK⟩ := sl_addr (HAW.out _ HS.out).k (by omega)
          have kc := cellsInt hK m hlm
          have kl := hK.1
          obtain ⟨hq0, hq1⟩ := HV.out.kill _ (List.getElem_mem hlm)
          obtain ⟨q, hq⟩ := Int.eq_ofNat_of_zero_le hq0
          rw [hq] at kc hq1
          have hqn : q < V.seats.length := by omega
          have hS4 := ((HAW.out _ HS.out).s.some_cells (by omega) : Ven.Cells 4 Ven.seatC wr sb so V.seats).seat q hqn
          obtain ⟨i0, i1, i2⟩ := HV.out.seat _ (List.getElem_mem hqn)
          have hZl : (Y ++ (V.kills.take m).flatMap (killLn V.seats)).length ≤ 2000000 := by
            have h1 := flat_bound (killLn V.seats) 60 (V.kills.take m) (fun z hz => killLn_len HV.out z (List.mem_of_mem_take hz))
            rw [List.length_append]
            rw [List.length_take] at h1; omega
          have HJ : Hid (Y ++ (V.kills.take (m + 1)).flatMap (killLn V.seats) = (Y ++ (V.kills.take m).flatMap (killLn V.seats)) ++ ([107, 105, 108, 108, 32] ++ (Lib.itoa V.seats[q].row ++ 32 :: (Lib.itoa V.seats[q].x ++ [10])))) := by
            show _ = _
            rw [flat_take _ _ _ hlm, killLn_eq V.seats _ q hq hqn, List.append_assoc]
          have c0 : Hid (∀ w, Calls Tryd.prog 15 #[.int .i64 V.seats[q].row] w fun e w' => e = .returned (.string ⟨(Lib.itoa V.seats[q].row).toArray⟩) ∧ w' = w) := fun w => dec_any _ i0 w
          have c1' : Hid (∀ w, Calls Tryd.prog 15 #[.int .i64 V.seats[q].x] w fun e w' => e = .returned (.string ⟨(Lib.itoa V.seats[q].x).toArray⟩) ∧ w' = w) := fun w => dec_any _ i1 w
          have l0 := itoa_len _ i0
          have l1 := itoa_len _ i1
          generalize Lib.itoa V.seats[q].row = I at HJ c0 l0
          generalize Lib.itoa V.seats[q].x = J at HJ c1' l1
          generalize V.seats[q].row = r at hS4 c0
          generalize V.seats[q].x = x at hS4 c1'
          generalize V.seats[q].y = y at hS4
          generalize V.seats[q].kind = kk at hS4
          generalize Y ++ (V.kills.take m).flatMap (killLn V.seats) = Z at hZl HJ
          have HBX : Hid (Box wr w.heap.size 26 #[.slice (some ⟨sb, so, none⟩) V.seats.length c1, .int .i64 gap, .int .i64 radius, .slice (some ⟨kb, ko, none⟩) V.kills.length c2, .slice a3 V.poles.length c3]) := HXW.out _ HS.out
          have HS4 : Hid (SeatAt wr sb (so + q * 4) r x y kk) := hS4
          have HKC : Hid (wr.cell? ⟨kb, ko + m, none⟩ = some (.int .i64 (q : Int)) ∧ kb < wr.heap.size) := ⟨kc, kl⟩
          clear hK kc kl hq0 hq1 hq hS4 i0 i1 i2
          go_wp2_with fail
          refine killx_region _ _ rfl w.heap.size sb so V.seats.length c1 kb ko V.kills.length c2 m q _ _ _ r x y kk rfl rfl HBX.out hlm (by omega) hqn (by omega) HKC.out.2 HKC.out.1 HS4.out ?_
          intro w3 hb3 hX3
          have HS3 : Hid (Below w1.heap.size w1 w3) := HS.out.trans (hb3.mono HS.out.size)
          obtain ⟨t0, t1, _, _⟩ : w3.cell? ⟨wr.heap.size, 0, none⟩ = some (.int .i64 r) ∧ w3.cell? ⟨wr.heap.size, 1, none⟩ = some (.int .i64 x) ∧ True ∧ True := ⟨hX3.cell 0 _ rfl, hX3.cell 1 _ rfl, trivial, trivial⟩
          have tl := hX3.lt
          clear hb3 hX3 v0 v1 v2 v3 v4 vl HS HBX HS4 HKC
          simp only [putAll, List.setIfInBounds_toArray, List.set_cons_succ, List.set_cons_zero]
          go_wp2_with fail
          refine wp_region_quiet_lit (by kernel_rfl) (by kernel_rfl) ?_
          go_big_quiet_step (fail)
          go_big_quiet_step (fail)
          go_big_quiet_step (fail)
          go_big_quiet_step (fail)
          go_big_quiet_step ((go_at_call 15; exact Calls.quiet_of_same (c0.out _)))
          go_big_quiet_step (fail)
          go_big_quiet_step (fail)
          go_big_quiet_step (fail)
          go_big_quiet_step (fail)
          go_big_quiet_step ((go_at_call 15; exact Calls.quiet_of_same (c1'.out _)))
          go_big_quiet_step (fail)
          go_big_quiet_step (fail)
          go_big_quiet_step (fail)
          refine wpQuiet_nil ?_
          rintro _ ⟨nq, rfl⟩
          have HS5 : Hid (Below w1.heap.size w1 (w3.drewN nq)) := HS3.out.trans ((drewN_past w3 nq).mono HS3.out.size)
          clear t0 t1 tl HS3
          generalize w3.drewN nq = w5 at HS5 ⊢
          go_wp2_with fail
          go_roundw
          case rel => exact ⟨m + 1, by omega, by go_num, by rw [HJ.out]; try simp, HS5⟩
          case measure => simp [intOf]; omega
        · have hlmz : ¬ (m : Int) < (V.kills.length : Int) := by omega
          have HXX : Hid (V.kills.take m = V.kills) := List.take_of_length_le (by omega)
          rw [HXX.out]
          have hZl : (Y ++ V.kills.flatMap (killLn V.seats)).length ≤ 2000000 := by
            have h1 := flat_bound (killLn V.seats) 60 V.kills (fun z hz => killLn_len HV.out z hz)
            rw [List.length_append]; omega
          clear HXX hYl
          generalize Y ++ V.kills.flatMap (killLn V.seats) = Z at hZl HPL
          go_wp2_with fail
          clear v0 v1 v2 v3 v4 vl
          go_loopw [4, 8] (fun s i wr => ∃ k : Nat, k ≤ V.poles.length ∧ i = .int .i64 k ∧ s = .string ⟨(Z ++ (V.poles.take k).flatMap poleLn).toArray⟩ ∧ Hid (Below w1.heap.size w1 wr)) (fun _ i _ => V.poles.length - (intOf i).toNat)
          case atStart => exact ⟨0, Nat.zero_le _, rfl, by simp, HS⟩
          case round =>
            clear HS
            obtain ⟨p, hp, rfl, rfl, HS⟩ := hrel
            have hpn := HV.out.pn
            obtain ⟨v0, v1, v2, v3, v4⟩ := (HXW.out _ HS.out).five
            have vl := (HXW.out _ HS.out).lt
            by_cases hlp : p < V.poles.length
            · have hlpz : (p : Int) < (V.poles.length : Int) := by omega
              obtain ⟨pb, po, rfl, _, hC⟩ := sl_addr (HAW.out _ HS.out).p (by omega)
              have pc0 := hC.2 p hlp 0 _ rfl
              have pc1 := hC.2 p hlp 1 _ rfl
              have pc2 := hC.2 p hlp 2 _ rfl
              have pl := hC.1
              simp only [Nat.add_zero] at pc0
              obtain ⟨i0, i1, i2⟩ := HV.out.pole _ (List.getElem_mem hlp)
              have hUl : (Z ++ (V.poles.take p).flatMap poleLn).length ≤ 3000000 := by
                have h1 := flat_bound poleLn 80 (V.poles.take p) (fun z hz => poleLn_len HV.out z (List.mem_of_mem_take hz))
                rw [List.length_append]
                rw [List.length_take] at h1; omega
              have HJ : Hid (Z ++ (V.poles.take (p + 1)).flatMap poleLn = (Z ++ (V.poles.take p).flatMap poleLn) ++ ([112, 111, 108, 101, 32] ++ (Lib.itoa V.poles[p].x ++ 32 :: (Lib.itoa V.poles[p].y ++ 32 :: (Lib.itoa V.poles[p].r ++ [10]))))) := by
                show _ = _
                rw [flat_take _ _ _ hlp, poleLn_eq, List.append_assoc]
              have c0 : Hid (∀ w, Calls Tryd.prog 15 #[.int .i64 V.poles[p].x] w fun e w' => e = .returned (.string ⟨(Lib.itoa V.poles[p].x).toArray⟩) ∧ w' = w) := fun w => dec_any _ i0 w
              have c1' : Hid (∀ w, Calls Tryd.prog 15 #[.int .i64 V.poles[p].y] w fun e w' => e = .returned (.string ⟨(Lib.itoa V.poles[p].y).toArray⟩) ∧ w' = w) := fun w => dec_any _ i1 w
              have c2' : Hid (∀ w, Calls Tryd.prog 15 #[.int .i64 V.poles[p].r] w fun e w' => e = .returned (.string ⟨(Lib.itoa V.poles[p].r).toArray⟩) ∧ w' = w) := fun w => dec_any _ i2 w
              have l0 := itoa_len _ i0
              have l1 := itoa_len _ i1
              have l2 := itoa_len _ i2
              generalize Lib.itoa V.poles[p].x = I at HJ c0 l0
              generalize Lib.itoa V.poles[p].y = J at HJ c1' l1
              generalize Lib.itoa V.poles[p].r = K at HJ c2' l2
              generalize V.poles[p].x = x at pc0 c0
              generalize V.poles[p].y = y at pc1 c1'
              generalize V.poles[p].r = r at pc2 c2'
              generalize Z ++ (V.poles.take p).flatMap poleLn = U at hUl HJ
              have HAL : Hid (Below w1.heap.size w1 (wr.alloc (.cells #[.int .i64 x, .int .i64 y, .int .i64 r] 42))) := HS.out.trans ((below_alloc wr _).mono HS.out.size)
              have HBX : Hid (Box (wr.alloc (.cells #[.int .i64 x, .int .i64 y, .int .i64 r] 42)) wr.heap.size 42 #[.int .i64 x, .int .i64 y, .int .i64 r]) := Box.fresh _ _ _
              clear i0 i1 i2 hC
              go_wp2_with fail
              clear pc0 pc1 pc2 pl v0 v1 v2 v3 v4 vl HS
              generalize wr.alloc (.cells #[.int .i64 x, .int .i64 y, .int .i64 r] 42) = w3 at HAL HBX ⊢
              generalize wr.heap.size = pq at HBX ⊢
              have t0 := HBX.out.cell 0 _ rfl
              have t1 := HBX.out.cell 1 _ rfl
              have t2 := HBX.out.cell 2 _ rfl
              have tl := HBX.out.lt
              refine wp_region_quiet_lit (by kernel_rfl) (by kernel_rfl) ?_
              go_big_quiet_step (fail)
              go_big_quiet_step (fail)
              go_big_quiet_step (fail)
              go_big_quiet_step (fail)
              go_big_quiet_step ((go_at_call 15; exact Calls.quiet_of_same (c0.out _)))
              go_big_quiet_step (fail)
              go_big_quiet_step (fail)
              go_big_quiet_step (fail)
              go_big_quiet_step (fail)
              go_big_quiet_step ((go_at_call 15; exact Calls.quiet_of_same (c1'.out _)))
              go_big_quiet_step (fail)
              go_big_quiet_step (fail)
              go_big_quiet_step (fail)
              go_big_quiet_step (fail)
              go_big_quiet_step ((go_at_call 15; exact Calls.quiet_of_same (c2'.out _)))
              go_big_quiet_step (fail)
              go_big_quiet_step (fail)
              go_big_quiet_step (fail)
              refine wpQuiet_nil ?_
              rintro _ ⟨nq, rfl⟩
              have HS5 : Hid (Below w1.heap.size w1 (w3.drewN nq)) := HAL.out.trans ((drewN_past w3 nq).mono HAL.out.size)
              clear t0 t1 t2 tl HAL HBX
              generalize w3.drewN nq = w5 at HS5 ⊢
              go_wp2_with fail
              go_roundw
              case rel => exact ⟨p + 1, by omega, by go_num, by rw [HJ.out]; try simp, HS5⟩
              case measure => simp [intOf]; omega
            · have hlpz : ¬ (p : Int) < (V.poles.length : Int) := by omega
              have HXX : Hid (V.poles.take p = V.poles) := List.take_of_length_le (by omega)
              rw [HXX.out, ← HPL.out]
              clear HXX HPL
              generalize hR : printL V = RR
              have HR : Hid (printL V = RR) := hR
              have HB9 : Hid (Below w.heap.size w wr) := HB1.out.trans (HS.out.mono HB1.out.size)
              clear hR
              go_wp2
              go_ret2
              exact ⟨congrArg (fun z : List UInt8 => Ending.returned (.tuple #[.string ⟨z.toArray⟩, .int .i64 0])) HR.out.symm, HB9.out⟩
end Go.Proofs.YtpkjhlcolgoknaaDoor.Prn
