/- VenueTwo: its walk. -/
import Derived.Test.YtoaapngfbidllaaRegG
namespace Go.Proofs.Ytoaapngfbidllaa
set_option linter.unusedVariables false
open Go.RowKit Go.Shelf

theorem mod_nat (z : Int) (n : Nat) (h0 : 0 < n) : ∃ k : Nat, k < n ∧ (IntKind.u64.wrap z).tmod (n : Int) = k := by
  obtain ⟨k, hk, e⟩ := mod_u64 z n (by omega)
  exact ⟨k, by omega, e⟩
set_option maxRecDepth 100000 in
set_option maxHeartbeats 4000000 in
theorem venueTwo_any (a : Option Addr) (len cap : Nat) (l : List Int) (which at' : Int) (other : Bool) (w : World) (h : IntsAt w a len cap l) :
    Calls Try.prog 8 #[.slice a len cap, .int .i64 which, .int .i64 at', .bool other] w fun e w' => e = .returned (.bool true) ∧ Below w.heap.size w w' := by
  have hmk := make_any a len cap l 20 (by omega) (by omega) w h
  clear h
  go_enter Try.func8, Try.ntmps8
  go_wp2_with fail
  refine hmk.mono ?_
  rintro e w1 ⟨V, az, cs, ak, ck, ap, cp, row, x, rfl, hv, hok, hlen, hb1⟩
  clear hmk
  have hn1 := hok.len
  obtain ⟨k, hk, ek⟩ := mod_nat which V.seats.length (by omega)
  obtain ⟨j, hj, ej⟩ := mod_nat at' (V.seats.length + 1) (by omega)
  have ej' : (IntKind.u64.wrap at').tmod ((V.seats.length : Int) + 1) = (j : Int) := by rw [← ej]; congr 1
  have wa : IntKind.u64.wrap (V.seats.length : Int) = (V.seats.length : Int) := by rw [IntKind.wrap_u64]; omega
  have wb : IntKind.i64.wrap ((V.seats.length : Int) + 1) = (V.seats.length : Int) + 1 := by rw [IntKind.wrap_i64]; omega
  have wc' : IntKind.u64.wrap ((V.seats.length : Int) + 1) = (V.seats.length : Int) + 1 := by rw [IntKind.wrap_u64]; omega
  have wd : IntKind.i64.wrap (k : Int) = k := by rw [IntKind.wrap_i64]; omega
  have we : IntKind.i64.wrap (j : Int) = j := by rw [IntKind.wrap_i64]; omega
  have nz1 : ¬ ((V.seats.length : Int) = 0) := by omega
  have nz2 : ¬ ((V.seats.length : Int) + 1 = 0) := by omega
  have x9 := Box.fresh w1 26 #[.slice az V.seats.length cs, .int .i64 V.gap, .int .i64 V.radius, .slice ak V.kills.length ck, .slice ap V.poles.length cp]
  have hv1 := hv.next (below_alloc w1 (.cells #[.slice az V.seats.length cs, .int .i64 V.gap, .int .i64 V.radius, .slice ak V.kills.length ck, .slice ap V.poles.length cp] 26))
  have p1 : Past w (w1.alloc (.cells #[.slice az V.seats.length cs, .int .i64 V.gap, .int .i64 V.radius, .slice ak V.kills.length ck, .slice ap V.poles.length cp] 26)) := Past.alloc hb1 _
  clear hv hb1 ej
  go_wp2_with fail
  generalize w1.alloc (.cells #[.slice az V.seats.length cs, .int .i64 V.gap, .int .i64 V.radius, .slice ak V.kills.length ck, .slice ap V.poles.length cp] 26) = W at x9 hv1 p1 ⊢
  have c0 := x9.cell 0 _ rfl
  have cl := x9.lt
  go_quiet ((fail))
  have x9' := x9.next (below_drewN W nq)
  have hv1' := hv1.next (below_drewN W nq)
  have p1' := p1.next (below_drewN W nq)
  clear x9 hv1 p1 c0 cl
  generalize W.drewN nq = W1 at x9' hv1' p1' ⊢
  rename Box W1 w1.heap.size 26 _ => x9
  rename Past w W1 => p1
  have hs0 := hv1'.s
  rcases hs0 with ⟨_, hnil⟩ | ⟨b, off, cap', he, hlc', hcm', hC⟩
  · rw [hnil] at hn1; simp at hn1
  have hz : az = some ⟨b, off, none⟩ := by injection he
  have hcc : cs = cap' := by injection he
  subst hz
  subst hcc
  clear he hv1'
  have hjl : j ≤ V.seats.length := by omega
  have hcm : cs ≤ 9223372036854775807 := by unfold maxLen at hcm'; omega
  obtain ⟨A, hA⟩ : ∃ A, (if cs = j then some (⟨b, off, none⟩ : Addr) else some ⟨b, off + j * 4, none⟩) = some A := by
    by_cases hc : cs = j
    · exact ⟨_, if_pos hc⟩
    · exact ⟨_, if_neg hc⟩
  have hse := hC.seat k hk
  have hkz : (k : Int) < (V.seats.length : Int) := by omega
  have c0 := x9.cell 0 _ rfl
  have c1 := x9.cell 1 _ rfl
  have c2 := x9.cell 2 _ rfl
  have cl := x9.lt
  have HOK : Hid (MkOK V row x) := hok
  clear hok
  have hsk : V.seats[k] = ⟨V.seats[k].row, V.seats[k].x, V.seats[k].y, V.seats[k].kind⟩ := rfl
  generalize V.seats[k].row = r at hse hsk
  generalize V.seats[k].x = x0 at hse hsk
  generalize V.seats[k].y = y0 at hse hsk
  generalize V.seats[k].kind = k0 at hse hsk
  have HSK : Hid (V.seats[k] = ⟨r, x0, y0, k0⟩) := hsk
  clear hsk
  obtain ⟨sl, t0, t1, t2, t3⟩ := hse
  cases other with
  | false =>
    go_wp2_with fail
    have k12 := (Box.fresh W1 34 #[.int .i64 r, .int .i64 x0, .int .i64 y0, .int .i64 k0]).next (below_alloc _ (.cells #[.slice none 0 0, .int .i64 V.gap, .int .i64 V.radius, .slice none 0 0, .slice none 0 0] 26))
    have k13 := Box.fresh (W1.alloc (.cells #[.int .i64 r, .int .i64 x0, .int .i64 y0, .int .i64 k0] 34)) 26 #[.slice none 0 0, .int .i64 V.gap, .int .i64 V.radius, .slice none 0 0, .slice none 0 0]
    have k9 := (x9.next (below_alloc _ (.cells #[.int .i64 r, .int .i64 x0, .int .i64 y0, .int .i64 k0] 34))).next (below_alloc _ (.cells #[.slice none 0 0, .int .i64 V.gap, .int .i64 V.radius, .slice none 0 0, .slice none 0 0] 26))
    have kC := (hC.next (below_alloc _ (.cells #[.int .i64 r, .int .i64 x0, .int .i64 y0, .int .i64 k0] 34))).next (below_alloc _ (.cells #[.slice none 0 0, .int .i64 V.gap, .int .i64 V.radius, .slice none 0 0, .slice none 0 0] 26))
    have kp : Past w ((W1.alloc (.cells #[.int .i64 r, .int .i64 x0, .int .i64 y0, .int .i64 k0] 34)).alloc (.cells #[.slice none 0 0, .int .i64 V.gap, .int .i64 V.radius, .slice none 0 0, .slice none 0 0] 26)) := (p1.alloc _).alloc _
    have hne : w1.heap.size ≠ W1.heap.size + 1 := by have := x9.lt; omega
    have hw0 : w.heap.size ≤ W1.heap.size + 1 := by have := p1.size; omega
    simp only [World.size_alloc] at k13
    generalize (W1.alloc (.cells #[.int .i64 r, .int .i64 x0, .int .i64 y0, .int .i64 k0] 34)).alloc (.cells #[.slice none 0 0, .int .i64 V.gap, .int .i64 V.radius, .slice none 0 0, .slice none 0 0] 26) = W2 at k12 k13 k9 kC kp ⊢
    refine region8_7 _ ?_ V.seats b off cs j hjl hlc' (by omega) hcm A hA r x0 y0 k0 _ _ _ _ _ _ _ _ w1.heap.size W1.heap.size (W1.heap.size + 1) W2 k9 kC k12 k13 _ _ _ _ _ _ _ _ _ _ _ _ _ _ _ _ _ _ _ _ _ _ _ _ _ _ _ _ _ _ _ _ _ _ _ _ _ _ _ _ _ _ _ _ _ _ _ _ _ _ _ _ _ _ _ _ _ _ _ _ _ _ _ _ _ _ _ _ _ _ _ _ _ _ _ _ _ _ _ _ _ _ _ _ _ _ _ _ _ _ _ _ _ _ _ _ ?_
    · intro c a a' w h; exact absurd h.2 (by first | (intro h2; cases h2.1) | (intro h2; cases h2))
    intro W3 e0 a5 c5 g7 a8 c8 a13 c13 hb3 hown3
    have q13 := k13.next hb3
    have s13 := q13.set 0 (.slice a13 (V.seats.length + 1) c13)
    have s9 := (k9.next hb3).other (W1.heap.size + 1) 0 hne (.slice a13 (V.seats.length + 1) c13)
    have sow := row_setCell hown3 q13 (by decide) 0 (.slice a13 (V.seats.length + 1) c13)
    have sp : Past w (W3.setCell ⟨W1.heap.size + 1, 0, none⟩ (.slice a13 (V.seats.length + 1) c13)) := Below.setCell (kp.next hb3) hw0 _
    clear k12 k13 k9 kC kp hb3 hown3 q13 x9 p1 hC c0 c1 c2 cl hA
    generalize W3.setCell ⟨W1.heap.size + 1, 0, none⟩ (.slice a13 (V.seats.length + 1) c13) = W4 at s13 s9 sow sp ⊢
    have hvU : VenAt W4 a13 (V.seats.length + 1) c13 none 0 0 none 0 0 (twoV V j ⟨r, x0, y0, k0⟩) := by
      refine ⟨row_sl (base := W2.heap.size) (e := 34) seatC_len (l := (twoV V j ⟨r, x0, y0, k0⟩).seats) ?_, .inl ⟨rfl, rfl⟩, .inl ⟨rfl, rfl⟩⟩
      rw [twoV_len V j _ hjl]
      have e : (twoV V j ⟨r, x0, y0, k0⟩).seats.flatMap seatC = (V.seats.take j).flatMap seatC ++ seatC ⟨r, x0, y0, k0⟩ ++ (V.seats.drop j).flatMap seatC := by
        unfold twoV; rw [List.flatMap_append, List.flatMap_append]; simp
      rw [e]; exact sow
    have hno : Calls Try.prog 11 #[venV a13 (V.seats.length + 1) c13 V.gap V.radius none 0 0 none 0 0] W4 fun e w' => ∃ rr, NormTo (twoV V j ⟨r, x0, y0, k0⟩) rr ∧ NormRes e w' rr ∧ Below W4.heap.size W4 w' := norm_any a13 none none (V.seats.length + 1) c13 0 0 0 0 (twoV V j ⟨r, x0, y0, k0⟩) W4 hvU
    obtain ⟨d0, d1, d2, d3, d4⟩ := Box.five s13
    have dl := s13.lt
    clear hvU sow
    go_wp2_with fail
    refine hno.mono ?_
    rintro e W5 ⟨rr, hto, hres, hb5⟩
    have t9 := s9.next hb5
    have tp := sp.next hb5
    clear d0 d1 d2 d3 d4 dl s13 s9 sp hno hb5
    have hnone : rr = none := two_same HOK.out j k hk (by rw [HSK.out]; exact hto)
    rw [hnone] at hres
    have hres' : e = .returned (.tuple #[venZ, .bool false]) := hres
    subst hres'
    have x14 := Box.fresh W5 26 Zero5
    have u9 := t9.next (below_alloc W5 (.cells Zero5 26))
    have up := tp.next (below_alloc W5 (.cells Zero5 26))
    clear hres hto
    go_wp2_with fail
    refine (told_any _).mono ?_
    rintro e W6 ⟨rfl, hb6⟩
    have y14 := x14.next hb6
    have yp := up.next hb6
    obtain ⟨f0, f1, f2, f3, f4⟩ := Box.five y14
    have fl := y14.lt
    go_wp2
    go_ret
    exact ⟨rfl, yp⟩
  | true =>
    go_wp2_with fail
    have k12 := (Box.fresh W1 34 #[.int .i64 900, .int .i64 x0, .int .i64 y0, .int .i64 k0]).next (below_alloc _ (.cells #[.slice none 0 0, .int .i64 V.gap, .int .i64 V.radius, .slice none 0 0, .slice none 0 0] 26))
    have k13 := Box.fresh (W1.alloc (.cells #[.int .i64 900, .int .i64 x0, .int .i64 y0, .int .i64 k0] 34)) 26 #[.slice none 0 0, .int .i64 V.gap, .int .i64 V.radius, .slice none 0 0, .slice none 0 0]
    have k9 := (x9.next (below_alloc _ (.cells #[.int .i64 900, .int .i64 x0, .int .i64 y0, .int .i64 k0] 34))).next (below_alloc _ (.cells #[.slice none 0 0, .int .i64 V.gap, .int .i64 V.radius, .slice none 0 0, .slice none 0 0] 26))
    have kC := (hC.next (below_alloc _ (.cells #[.int .i64 900, .int .i64 x0, .int .i64 y0, .int .i64 k0] 34))).next (below_alloc _ (.cells #[.slice none 0 0, .int .i64 V.gap, .int .i64 V.radius, .slice none 0 0, .slice none 0 0] 26))
    have kp : Past w ((W1.alloc (.cells #[.int .i64 900, .int .i64 x0, .int .i64 y0, .int .i64 k0] 34)).alloc (.cells #[.slice none 0 0, .int .i64 V.gap, .int .i64 V.radius, .slice none 0 0, .slice none 0 0] 26)) := (p1.alloc _).alloc _
    have hne : w1.heap.size ≠ W1.heap.size + 1 := by have := x9.lt; omega
    have hw0 : w.heap.size ≤ W1.heap.size + 1 := by have := p1.size; omega
    simp only [World.size_alloc] at k13
    generalize (W1.alloc (.cells #[.int .i64 900, .int .i64 x0, .int .i64 y0, .int .i64 k0] 34)).alloc (.cells #[.slice none 0 0, .int .i64 V.gap, .int .i64 V.radius, .slice none 0 0, .slice none 0 0] 26) = W2 at k12 k13 k9 kC kp ⊢
    refine region8_7 _ ?_ V.seats b off cs j hjl hlc' (by omega) hcm A hA 900 x0 y0 k0 _ _ _ _ _ _ _ _ w1.heap.size W1.heap.size (W1.heap.size + 1) W2 k9 kC k12 k13 _ _ _ _ _ _ _ _ _ _ _ _ _ _ _ _ _ _ _ _ _ _ _ _ _ _ _ _ _ _ _ _ _ _ _ _ _ _ _ _ _ _ _ _ _ _ _ _ _ _ _ _ _ _ _ _ _ _ _ _ _ _ _ _ _ _ _ _ _ _ _ _ _ _ _ _ _ _ _ _ _ _ _ _ _ _ _ _ _ _ _ _ _ _ _ _ ?_
    · intro c a a' w h; exact absurd h.2 (by first | (intro h2; cases h2.1) | (intro h2; cases h2))
    intro W3 e0 a5 c5 g7 a8 c8 a13 c13 hb3 hown3
    have q13 := k13.next hb3
    have s13 := q13.set 0 (.slice a13 (V.seats.length + 1) c13)
    have s9 := (k9.next hb3).other (W1.heap.size + 1) 0 hne (.slice a13 (V.seats.length + 1) c13)
    have sow := row_setCell hown3 q13 (by decide) 0 (.slice a13 (V.seats.length + 1) c13)
    have sp : Past w (W3.setCell ⟨W1.heap.size + 1, 0, none⟩ (.slice a13 (V.seats.length + 1) c13)) := Below.setCell (kp.next hb3) hw0 _
    clear k12 k13 k9 kC kp hb3 hown3 q13 x9 p1 hC c0 c1 c2 cl hA
    generalize W3.setCell ⟨W1.heap.size + 1, 0, none⟩ (.slice a13 (V.seats.length + 1) c13) = W4 at s13 s9 sow sp ⊢
    have hvU : VenAt W4 a13 (V.seats.length + 1) c13 none 0 0 none 0 0 (twoV V j ⟨900, x0, y0, k0⟩) := by
      refine ⟨row_sl (base := W2.heap.size) (e := 34) seatC_len (l := (twoV V j ⟨900, x0, y0, k0⟩).seats) ?_, .inl ⟨rfl, rfl⟩, .inl ⟨rfl, rfl⟩⟩
      rw [twoV_len V j _ hjl]
      have e : (twoV V j ⟨900, x0, y0, k0⟩).seats.flatMap seatC = (V.seats.take j).flatMap seatC ++ seatC ⟨900, x0, y0, k0⟩ ++ (V.seats.drop j).flatMap seatC := by
        unfold twoV; rw [List.flatMap_append, List.flatMap_append]; simp
      rw [e]; exact sow
    have hno : Calls Try.prog 11 #[venV a13 (V.seats.length + 1) c13 V.gap V.radius none 0 0 none 0 0] W4 fun e w' => ∃ rr, NormTo (twoV V j ⟨900, x0, y0, k0⟩) rr ∧ NormRes e w' rr ∧ Below W4.heap.size W4 w' := norm_any a13 none none (V.seats.length + 1) c13 0 0 0 0 (twoV V j ⟨900, x0, y0, k0⟩) W4 hvU
    obtain ⟨d0, d1, d2, d3, d4⟩ := Box.five s13
    have dl := s13.lt
    clear hvU sow
    go_wp2_with fail
    refine hno.mono ?_
    rintro e W5 ⟨rr, hto, hres, hb5⟩
    have t9 := s9.next hb5
    have tp := sp.next hb5
    clear d0 d1 d2 d3 d4 dl s13 s9 sp hno hb5
    obtain ⟨U, rfl, hmU, hlU⟩ := two_other HOK.out (by omega) j k hjl hk (r := rr) (by rw [HSK.out]; exact hto)
    obtain ⟨b1, m1, d1, b2, m2, d2, b3, m3, d3, rfl, hvW⟩ := hres
    have em : m1 = V.seats.length + 1 := by rw [← hlU]; exact hvW.s.len
    subst em
    have x14 := Box.fresh W5 26 #[.slice b1 (V.seats.length + 1) d1, .int .i64 U.gap, .int .i64 U.radius, .slice b2 m2 d2, .slice b3 m3 d3]
    have u9 := t9.next (below_alloc W5 (.cells #[.slice b1 (V.seats.length + 1) d1, .int .i64 U.gap, .int .i64 U.radius, .slice b2 m2 d2, .slice b3 m3 d3] 26))
    have up := tp.next (below_alloc W5 (.cells #[.slice b1 (V.seats.length + 1) d1, .int .i64 U.gap, .int .i64 U.radius, .slice b2 m2 d2, .slice b3 m3 d3] 26))
    have uv := hvW.next (below_alloc W5 (.cells #[.slice b1 (V.seats.length + 1) d1, .int .i64 U.gap, .int .i64 U.radius, .slice b2 m2 d2, .slice b3 m3 d3] 26))
    clear hto
    go_wp2_with fail
    refine (told_any _).mono ?_
    rintro e W6 ⟨rfl, hb6⟩
    have y14 := x14.next hb6
    have yp := up.next hb6
    have yv := uv.next hb6
    have hmay := may_any _ _ _ _ _ _ _ _ _ U W6 yv
    rw [hmU] at hmay
    have g0 := (u9.next hb6).cell 0 _ rfl
    have gl := (u9.next hb6).lt
    obtain ⟨f0, f1, f2, f3, f4⟩ := Box.five y14
    have fl := y14.lt
    go_wp2_with fail
    refine hmay.mono ?_
    rintro e W7 ⟨rfl, hb7⟩
    have zp := yp.next hb7
    go_wp2
    go_ret
    exact ⟨rfl, zp⟩
theorem venueTwo_law (a : Option Addr) (len cap : Nat) (l : List Int) (w : World) (h : IntsAt w a len cap l) (which : Int) (hq : -9223372036854775808 ≤ which ∧ which ≤ 9223372036854775807) (at' : Int) (ha : -9223372036854775808 ≤ at' ∧ at' ≤ 9223372036854775807) (other : Bool) :
    Calls Try.prog 8 #[.slice a len cap, .int .i64 which, .int .i64 at', .bool other] w fun e w' => e = .returned (.bool true) ∧ Below w.heap.size w w' := venueTwo_any a len cap l which at' other w h
end Go.Proofs.Ytoaapngfbidllaa
