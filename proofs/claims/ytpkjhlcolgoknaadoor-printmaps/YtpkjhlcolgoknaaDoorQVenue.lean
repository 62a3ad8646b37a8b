/- print.Venue by its contract: the manifest of a venue that may be. -/
import Derived.Test.YtpkjhlcolgoknaaDoorQSeat
import Derived.Test.YtpkjhlcolgoknaaDoorQBld
import Derived.Test.YtpkjhlcolgoknaaDoorVOrdP
import Derived.StillTailTactics
namespace Go.Proofs.YtpkjhlcolgoknaaDoor.Prn
set_option linter.unusedVariables false
set_option maxRecDepth 100000
open Go.RowKit Go.Shelf
open Go.Proofs.YtpkjhlcolgoknaaDoor.Ven (Seat Pole Ven VenAt venV Box mayB mixed SeatAt below_alloc)

attribute [local go_sem] bapp
theorem fact1 (W : List UInt8) (hW : W.length ≤ 20) (a : Int) (ha : I64 a) (w : World) (hp : Pow w) :
    Calls Tryd.prog 18 #[.string ⟨W.toArray⟩, .slice (some ⟨w.heap.size, 0, none⟩) 1 1] (w.alloc (.cells #[.int .i64 a] 3)) fun e w' => e = .returned (.string ⟨(factL W [a]).toArray⟩) ∧ Below w.heap.size w w' := by
  have hb := below_alloc w (.cells #[.int .i64 a] 3)
  refine (fact_any W hW [a] (by intro n hn; simp at hn; subst hn; exact ha) (by simp) w.heap.size 0 1 _ (Ven.Box.cells (k := 1) (enc := Ven.intC) (fun _ => rfl) (Box.fresh _ _ _) rfl) (hp.next hb)).mono ?_
  rintro e w' ⟨rfl, h⟩
  exact ⟨rfl, hb.trans (h.mono hb.size)⟩
theorem fact2 (W : List UInt8) (hW : W.length ≤ 20) (a b : Int) (ha : I64 a) (hb' : I64 b) (w : World) (hp : Pow w) :
    Calls Tryd.prog 18 #[.string ⟨W.toArray⟩, .slice (some ⟨w.heap.size, 0, none⟩) 2 2] (w.alloc (.cells #[.int .i64 a, .int .i64 b] 3)) fun e w' => e = .returned (.string ⟨(factL W [a, b]).toArray⟩) ∧ Below w.heap.size w w' := by
  have hb := below_alloc w (.cells #[.int .i64 a, .int .i64 b] 3)
  refine (fact_any W hW [a, b] (by intro n hn; simp at hn; rcases hn with rfl | rfl <;> assumption) (by simp) w.heap.size 0 2 _ (Ven.Box.cells (k := 1) (enc := Ven.intC) (fun _ => rfl) (Box.fresh _ _ _) rfl) (hp.next hb)).mono ?_
  rintro e w' ⟨rfl, h⟩
  exact ⟨rfl, hb.trans (h.mono hb.size)⟩
theorem fact3 (W : List UInt8) (hW : W.length ≤ 20) (a b c : Int) (ha : I64 a) (hb' : I64 b) (hc : I64 c) (w : World) (hp : Pow w) :
    Calls Tryd.prog 18 #[.string ⟨W.toArray⟩, .slice (some ⟨w.heap.size, 0, none⟩) 3 3] (w.alloc (.cells #[.int .i64 a, .int .i64 b, .int .i64 c] 3)) fun e w' => e = .returned (.string ⟨(factL W [a, b, c]).toArray⟩) ∧ Below w.heap.size w w' := by
  have hb := below_alloc w (.cells #[.int .i64 a, .int .i64 b, .int .i64 c] 3)
  refine (fact_any W hW [a, b, c] (by intro n hn; simp at hn; rcases hn with rfl | rfl | rfl <;> assumption) (by simp) w.heap.size 0 3 _ (Ven.Box.cells (k := 1) (enc := Ven.intC) (fun _ => rfl) (Box.fresh _ _ _) rfl) (hp.next hb)).mono ?_
  rintro e w' ⟨rfl, h⟩
  exact ⟨rfl, hb.trans (h.mono hb.size)⟩

theorem coord64 {n : Int} (h : Ven.coordB n = true) : I64 n := by unfold Ven.coordB at h; unfold I64; simp at h; omega
theorem row64 {n : Int} (h : Ven.rowB n = true) : I64 n := by unfold Ven.rowB at h; unfold I64; simp at h; omega
theorem length64 {n : Int} (h : Ven.lengthB n = true) : I64 n := by unfold Ven.lengthB at h; unfold I64; simp at h; omega
theorem dist64 {n : Int} (h : Ven.distB n = true) : I64 n := by unfold Ven.distB at h; unfold I64; simp at h; omega
/-- What a venue that may be has. -/
structure MayV (V : Ven) : Prop where
  n1 : 1 ≤ V.seats.length
  n2 : V.seats.length ≤ 4096
  seat : ∀ s ∈ V.seats, I64 s.row ∧ I64 s.x ∧ I64 s.y
  gap : I64 V.gap
  radius : I64 V.radius
  kn : V.kills.length ≤ 200
  kill : ∀ k ∈ V.kills, 0 ≤ k ∧ k < V.seats.length
  rise : V.kills.Pairwise (fun a b => a < b)
  pn : V.poles.length ≤ 200
  pole : ∀ p ∈ V.poles, I64 p.x ∧ I64 p.y ∧ I64 p.r
theorem may_v {V : Ven} (h : mayB V = true) : MayV V := by
  unfold Ven.mayB at h
  simp only [Bool.and_eq_true] at h
  obtain ⟨⟨⟨⟨h1, h2⟩, h3⟩, h4⟩, h5⟩ := h
  obtain ⟨s1, s2, s3, _⟩ := (Ven.seatsB_iff _).1 h1
  obtain ⟨k1, k2, k3⟩ := (Ven.killsB_iff _ _).1 h4
  obtain ⟨p1, p2⟩ := (Ven.polesB_iff _).1 h5
  refine ⟨s1, s2, fun s hs => ?_, length64 h2, dist64 h3, k1, fun k hk => ?_, k3, p1, fun p hp => ?_⟩
  · have := s3 s hs
    unfold Ven.seatB Ven.standsB at this
    simp only [Bool.and_eq_true] at this
    exact ⟨row64 this.1.1, coord64 this.1.2.1, coord64 this.1.2.2⟩
  · have := k2 k hk
    unfold Ven.isSeatB at this
    simp at this; exact this
  · have := p2 p hp
    unfold Ven.poleB Ven.standsB at this
    simp only [Bool.and_eq_true] at this
    exact ⟨coord64 this.1.1, coord64 this.1.2, length64 this.2⟩
/-- What the loops hold: what was there is as it was, the builder holds so much. -/
structure PSt (W w : World) (X : List UInt8) : Prop where
  past : Below W.heap.size W w
  bld : Bld w W.heap.size W.heap.size X
theorem PSt.next {W w w' : World} {X : List UInt8} (h : PSt W w X) (hb : Below w.heap.size w w') : PSt W w' X := ⟨h.past.trans (hb.mono h.past.size), h.bld.next hb⟩
/-- A line more. -/
theorem PSt.wrote {W w w' : World} {X Y : List UInt8} (h : PSt W w X) (hB : Bld w' W.heap.size W.heap.size Y) (hb : Below W.heap.size w w') : PSt W w' Y := ⟨h.past.trans hb, hB⟩
theorem sl_addr {α : Type} {k : Nat} {enc : α → List Value} {w : World} {a : Option Addr} {n c : Nat} {l : List α} (h : Ven.Sl k enc w (.slice a n c) l) (hl : 0 < l.length) : ∃ b off, a = some ⟨b, off, none⟩ ∧ n = l.length ∧ Ven.Cells k enc w b off l := by
  rcases h with ⟨_, rfl⟩ | ⟨b, off, cap, he, _, _, hC⟩
  · simp at hl
  · injection he with h1 h2 h3
    exact ⟨b, off, h1, h2, hC⟩
set_option maxHeartbeats 1000000 in
theorem venue_no (a1 a2 a3 : Option Addr) (n1 c1 n2 c2 n3 c3 : Nat) (V : Ven) (w : World) (h : VenAt w a1 n1 c1 a2 n2 c2 a3 n3 c3 V) (hm : mayB V = false) :
    Calls Tryd.prog 8 #[venV a1 n1 c1 V.gap V.radius a2 n2 c2 a3 n3 c3] w fun e w' => e = .returned (.tuple #[.string ⟨#[]⟩, .int .i64 1]) ∧ Below w.heap.size w w' := by
  have hb := below_alloc w (.cells #[.slice a1 n1 c1, .int .i64 V.gap, .int .i64 V.radius, .slice a2 n2 c2, .slice a3 n3 c3] 26)
  have hmay := Ven.may_any a1 a2 a3 n1 c1 n2 c2 n3 c3 V _ (h.next hb)
  rw [hm] at hmay
  generalize V.gap = gap at hmay hb ⊢
  generalize V.radius = radius at hmay hb ⊢
  go_enter Tryd.func8, Tryd.ntmps8
  go_wp2_with fail
  refine hmay.mono ?_
  rintro e w1 ⟨rfl, hb1⟩
  go_wp2
  go_ret2
  exact ⟨rfl, hb.trans (hb1.mono hb.size)⟩
set_option maxHeartbeats 8000000 in
theorem venue_yes (a1 a2 a3 : Option Addr) (n1 c1 n2 c2 n3 c3 : Nat) (V : Ven) (w : World) (h : VenAt w a1 n1 c1 a2 n2 c2 a3 n3 c3 V) (hm : mayB V = true) (hp : Pow w) :
    Calls Tryd.prog 8 #[venV a1 n1 c1 V.gap V.radius a2 n2 c2 a3 n3 c3] w fun e w' => e = .returned (.tuple #[.string ⟨(printL V).toArray⟩, .int .i64 0]) ∧ Below w.heap.size w w' := by
  obtain rfl : n1 = V.seats.length := h.s.len
  obtain rfl : n2 = V.kills.length := h.k.len
  obtain rfl : n3 = V.poles.length := h.p.len
  have hb := below_alloc w (.cells #[.slice a1 V.seats.length c1, .int .i64 V.gap, .int .i64 V.radius, .slice a2 V.kills.length c2, .slice a3 V.poles.length c3] 26)
  have hmay := Ven.may_any a1 a2 a3 _ c1 _ c2 _ c3 V _ (h.next hb)
  rw [hm] at hmay
  have HV : Hid (MayV V) := may_v hm
  have HX := Box.fresh w 26 #[.slice a1 V.seats.length c1, .int .i64 V.gap, .int .i64 V.radius, .slice a2 V.kills.length c2, .slice a3 V.poles.length c3]
  have HA : Hid (VenAt w a1 V.seats.length c1 a2 V.kills.length c2 a3 V.poles.length c3 V) := h
  have HP : Hid (Pow w) := hp
  have hg1 := HV.out.gap
  have hg2 := HV.out.radius
  have HPL : Hid (printL V = (factL tGap [V.gap] ++ [10] ++ (factL tRadius [V.radius] ++ [10])) ++ V.seats.flatMap seatLn ++ V.kills.flatMap (killLn V.seats) ++ V.poles.flatMap poleLn) := rfl
  clear hm h hp
  generalize V.gap = gap at hmay hb HX hg1 HPL ⊢
  generalize V.radius = radius at hmay hb HX hg2 HPL ⊢
  go_enter Tryd.func8, Tryd.ntmps8
  go_wp2_with fail
  refine hmay.mono ?_
  rintro e w1 ⟨rfl, hb1⟩
  have HB1 : Hid (Below w.heap.size w w1) := hb.trans (hb1.mono hb.size)
  have HX1 : Hid (Box w1 w.heap.size 26 #[.slice a1 V.seats.length c1, .int .i64 gap, .int .i64 radius, .slice a2 V.kills.length c2, .slice a3 V.poles.length c3]) := HX.next hb1
  clear hb1 hb HX hmay
  have HS : Hid (PSt w1 (w1.alloc (.cells #[.pointer none, .slice none 0 0] 46)) []) := ⟨below_alloc _ _, Bld.fresh w1⟩
  have HP1 : Hid (∀ W, Below w1.heap.size w1 W → Pow W) := fun W hW => HP.out.next (HB1.out.trans (hW.mono HB1.out.size))
  have HXW : Hid (∀ W, Below w1.heap.size w1 W → Box W w.heap.size 26 #[.slice a1 V.seats.length c1, .int .i64 gap, .int .i64 radius, .slice a2 V.kills.length c2, .slice a3 V.poles.length c3]) := fun W hW => HX1.out.next hW
  have HAW : Hid (∀ W, Below w1.heap.size w1 W → VenAt W a1 V.seats.length c1 a2 V.kills.length c2 a3 V.poles.length c3 V) := fun W hW => HA.out.next (HB1.out.trans (hW.mono HB1.out.size))
  obtain ⟨v0, v1, v2, v3, v4⟩ := HX1.out.five
  have vl := HX1.out.lt
  have hf1 := fact1 tGap (by decide) gap hg1 _ (HP1.out _ HS.out.past)
  have hfl := factL_len tGap [gap] (by intro n hn; simp at hn; subst hn; exact hg1)
  simp only [tGap, List.length_cons, List.length_nil] at hfl
  have HFE : Hid (tGap = [103, 97, 112]) := rfl
  rw [HFE.out] at hf1 HPL
  rw [World.size_alloc] at hf1
  clear HX1 HFE v0 v2 v3 v4
  generalize factL [103, 97, 112] [gap] = X1 at hf1 hfl HPL
  go_wp2_with fail
  refine hf1.mono ?_
  rintro e w3 ⟨rfl, hb3⟩
  have HS3 : Hid (PSt w1 w3 []) := HS.out.next (by rw [World.size_alloc]; exact hb3)
  clear hb3 HS v1 vl hf1
  go_wp2_with fail
  refine (ws_any w1.heap.size w1.heap.size [] (X1 ++ [10]) _ HS3.out.bld (by simp; omega)).mono ?_
  rintro e w4 ⟨rfl, hB4, hb4⟩
  have HS4 : Hid (PSt w1 w4 (X1 ++ [10])) := HS3.out.wrote hB4 hb4
  clear hB4 hb4 HS3
  have bx := HXW.out _ HS4.out.past
  obtain ⟨v0, v1, v2, v3, v4⟩ := bx.five
  have vl := bx.lt
  have hf2 := fact1 tRadius (by decide) radius hg2 _ (HP1.out _ HS4.out.past)
  have hfl2 := factL_len tRadius [radius] (by intro n hn; simp at hn; subst hn; exact hg2)
  simp only [tRadius, List.length_cons, List.length_nil] at hfl2
  have HFE : Hid (tRadius = [114, 97, 100, 105, 117, 115]) := rfl
  rw [HFE.out] at hf2 HPL
  clear bx HFE v0 v1 v3 v4
  generalize factL [114, 97, 100, 105, 117, 115] [radius] = X2 at hf2 hfl2 HPL
  go_wp2_with fail
  refine hf2.mono ?_
  rintro e w5 ⟨rfl, hb5⟩
  have HS5 : Hid (PSt w1 w5 (X1 ++ [10])) := HS4.out.next hb5
  clear hb5 HS4 v2 vl hf2
  go_wp2_with fail
  refine (ws_any w1.heap.size w1.heap.size (X1 ++ [10]) (X2 ++ [10]) _ HS5.out.bld (by simp; omega)).mono ?_
  rintro e w6 ⟨rfl, hB6, hb6⟩
  have HS6 : Hid (PSt w1 w6 (X1 ++ [10] ++ (X2 ++ [10]))) := HS5.out.wrote hB6 hb6
  have hXl : (X1 ++ [10] ++ (X2 ++ [10])).length ≤ 100 := by simp; omega
  clear hB6 hb6 HS5 hfl hfl2 hg1 hg2
  generalize X1 ++ [10] ++ (X2 ++ [10]) = X at HS6 HPL hXl
  have bx := HXW.out _ HS6.out.past
  obtain ⟨v0, v1, v2, v3, v4⟩ := bx.five
  have vl := bx.lt
  clear bx v1 v2 v3 v4
  go_wp2_with fail
  clear v0 vl
  go_loopw [29] (fun i wr => ∃ k : Nat, k ≤ V.seats.length ∧ i = .int .i64 k ∧ Hid (PSt w1 wr (X ++ (V.seats.take k).flatMap seatLn))) (fun i _ => V.seats.length - (intOf i).toNat)
  case atStart => exact ⟨0, Nat.zero_le _, rfl, by simpa using HS6⟩
  case round =>
    clear HS6
    obtain ⟨k, hk, rfl, HS⟩ := hrel
    have hn2 := HV.out.n2
    have hn1 := HV.out.n1
    by_cases hlt : k < V.seats.length
    · have hltz : (k : Int) < (V.seats.length : Int) := by omega
      obtain ⟨sb, so, rfl, _, hC⟩ := sl_addr (HAW.out _ HS.out.past).s (by omega)
      obtain ⟨sl, c0, c1, c2, c3⟩ := hC.seat k hlt
      obtain ⟨i0, i1, i2⟩ := HV.out.seat _ (List.getElem_mem hlt)
      have HXX : Hid ((V.seats.take (k + 1)).flatMap seatLn = (V.seats.take k).flatMap seatLn ++ (seatL V.seats[k] ++ [10])) := flat_take _ _ _ hlt
      have hsl := seatL_len V.seats[k] i0 i1 i2
      have hYl : (X ++ (V.seats.take k).flatMap seatLn).length ≤ 1000000 := by
        have h1 := flat_bound seatLn 76 (V.seats.take k) (fun s hs => by
          obtain ⟨j0, j1, j2⟩ := HV.out.seat s (List.mem_of_mem_take hs)
          have := seatL_len s j0 j1 j2
          unfold seatLn; rw [List.length_append, List.length_singleton]; omega)
        have h2 := HV.out.n2
        rw [List.length_append]
        rw [List.length_take] at h1; omega
      have hse : ∀ W, Below w1.heap.size w1 W → Calls Tryd.prog 10 #[.agg #[.int .i64 V.seats[k].row, .int .i64 V.seats[k].x, .int .i64 V.seats[k].y, .int .i64 V.seats[k].kind]] W fun e w' => e = .returned (.string ⟨(seatL V.seats[k]).toArray⟩) ∧ Below W.heap.size W w' := fun W hW => seat_any V.seats[k] i0 i1 i2 W (HP1.out W hW)
      have HSE : Hid (∀ W, Below w1.heap.size w1 W → Calls Tryd.prog 10 #[.agg #[.int .i64 V.seats[k].row, .int .i64 V.seats[k].x, .int .i64 V.seats[k].y, .int .i64 V.seats[k].kind]] W fun e w' => e = .returned (.string ⟨(seatL V.seats[k]).toArray⟩) ∧ Below W.heap.size W w') := hse
      clear hC i0 i1 i2 hse
      generalize seatL V.seats[k] = L at HSE HXX hsl
      generalize V.seats[k].row = r at c0 HSE
      generalize V.seats[k].x = x at c1 HSE
      generalize V.seats[k].y = y at c2 HSE
      generalize V.seats[k].kind = kk at c3 HSE
      have HAL : Hid (∀ o : Obj, PSt w1 (wr.alloc o) (X ++ (V.seats.take k).flatMap seatLn)) := fun o => HS.out.next (below_alloc _ _)
      have HYl : Hid ((X ++ (V.seats.take k).flatMap seatLn).length ≤ 1000000) := hYl
      clear hYl
      go_wp2_with fail
      clear c0 c1 c2 c3 sl
      refine (HSE.out _ (HAL.out _).past).mono ?_
      rintro e w7 ⟨rfl, hb7⟩
      have HS7 : Hid (PSt w1 w7 (X ++ (V.seats.take k).flatMap seatLn)) := (HAL.out _).next hb7
      clear hb7 HSE
      go_wp2_with fail
      refine (ws_any w1.heap.size w1.heap.size (X ++ (V.seats.take k).flatMap seatLn) (L ++ [10]) _ HS7.out.bld (by have := HYl.out; simp at *; omega)).mono ?_
      rintro e w8 ⟨rfl, hB8, hb8⟩
      have HS8 : Hid (PSt w1 w8 (X ++ (V.seats.take k).flatMap seatLn ++ (L ++ [10]))) := HS7.out.wrote hB8 hb8
      clear hB8 hb8 HS7
      go_wp2_with fail
      go_roundw
      case rel => exact ⟨k + 1, by omega, by go_num, by rw [HXX.out, ← List.append_assoc]; exact HS8⟩
      case measure => simp [intOf]; omega
    · have hltz : ¬ (k : Int) < (V.seats.length : Int) := by omega
      have HXX : Hid (V.seats.take k = V.seats) := List.take_of_length_le (by omega)
      rw [HXX.out] at HS
      have hYl : (X ++ V.seats.flatMap seatLn).length ≤ 1000000 := by
        have h1 := flat_bound seatLn 76 V.seats (fun s hs => by
          obtain ⟨j0, j1, j2⟩ := HV.out.seat s hs
          have := seatL_len s j0 j1 j2
          unfold seatLn; rw [List.length_append, List.length_singleton]; omega)
        have h2 := HV.out.n2
        rw [List.length_append]; omega
      clear HXX
      generalize X ++ V.seats.flatMap seatLn = Y at HS hYl HPL
      have bx := HXW.out _ HS.out.past
      obtain ⟨v0, v1, v2, v3, v4⟩ := bx.five
      have vl := bx.lt
      clear bx v0 v1 v2 v4
      go_wp2_with fail
      clear v3 vl hXl
      go_loopw [41] (fun i wr => ∃ k : Nat, k ≤ V.kills.length ∧ i = .int .i64 k ∧ Hid (PSt w1 wr (Y ++ (V.kills.take k).flatMap (killLn V.seats)))) (fun i _ => V.kills.length - (intOf i).toNat)
      case atStart => exact ⟨0, Nat.zero_le _, rfl, by simpa using HS⟩
      case round =>
        clear HS
        obtain ⟨m, hm, rfl, HS⟩ := hrel
        have hkn := HV.out.kn
        by_cases hlm : m < V.kills.length
        · have hlmz : (m : Int) < (V.kills.length : Int) := by omega
          obtain ⟨sb, so, rfl, _, hC⟩ := sl_addr (HAW.out _ HS.out.past).s (by omega)
          obtain ⟨kb, ko, rfl, _, hK⟩ := sl_addr (HAW.out _ HS.out.past).k (by omega)
          have kc := cellsInt hK m hlm
          have kl := hK.1
          obtain ⟨hq0, hq1⟩ := HV.out.kill _ (List.getElem_mem hlm)
          obtain ⟨q, hq⟩ := Int.eq_ofNat_of_zero_le hq0
          rw [hq] at kc hq1
          have hqn : q < V.seats.length := by omega
          obtain ⟨sl, c0, c1, c2, c3⟩ := hC.seat q hqn
          obtain ⟨i0, i1, i2⟩ := HV.out.seat _ (List.getElem_mem hqn)
          have HXX : Hid ((V.kills.take (m + 1)).flatMap (killLn V.seats) = (V.kills.take m).flatMap (killLn V.seats) ++ (factL tKill [V.seats[q].row, V.seats[q].x] ++ [10])) := by
            show _ = _
            rw [flat_take _ _ _ hlm]
            unfold killLn
            rw [hq, Int.toNat_natCast, getElem!_pos V.seats q hqn]
          have hZl : (Y ++ (V.kills.take m).flatMap (killLn V.seats)).length ≤ 2000000 := by
            have h1 := flat_bound (killLn V.seats) 60 (V.kills.take m) (fun z hz => by
              obtain ⟨z0, z1⟩ := HV.out.kill z (List.mem_of_mem_take hz)
              have hzn : z.toNat < V.seats.length := by omega
              obtain ⟨j0, j1, j2⟩ := HV.out.seat _ (List.getElem_mem hzn)
              have := factL_len tKill [V.seats[z.toNat].row, V.seats[z.toNat].x] (by intro n hn; simp only [List.mem_cons, List.not_mem_nil, or_false] at hn; rcases hn with rfl | rfl <;> assumption)
              unfold killLn
              rw [getElem!_pos V.seats z.toNat hzn, List.length_append, List.length_singleton]
              simp only [tKill, List.length_cons, List.length_nil] at this ⊢
              omega)
            rw [List.length_append]
            rw [List.length_take] at h1; omega
          have hfl := factL_len tKill [V.seats[q].row, V.seats[q].x] (by intro n hn; simp only [List.mem_cons, List.not_mem_nil, or_false] at hn; rcases hn with rfl | rfl <;> assumption)
          simp only [tKill, List.length_cons, List.length_nil] at hfl
          have HF2 : Hid (∀ W, Below w1.heap.size w1 W → Calls Tryd.prog 18 #[.string ⟨[107, 105, 108, 108].toArray⟩, .slice (some ⟨W.heap.size, 0, none⟩) 2 2] (W.alloc (.cells #[.int .i64 V.seats[q].row, .int .i64 V.seats[q].x] 3)) fun e w' => e = .returned (.string ⟨(factL [107, 105, 108, 108] [V.seats[q].row, V.seats[q].x]).toArray⟩) ∧ Below W.heap.size W w') := fun W hW => fact2 tKill (by decide) _ _ i0 i1 W (HP1.out W hW)
          have HZl : Hid ((Y ++ (V.kills.take m).flatMap (killLn V.seats)).length ≤ 2000000) := hZl
          have HFE : Hid (tKill = [107, 105, 108, 108]) := rfl
          rw [HFE.out] at HXX
          clear hC hK i0 i1 i2 c2 c3 hq hq0 hZl HFE
          generalize factL [107, 105, 108, 108] [V.seats[q].row, V.seats[q].x] = L at HF2 HXX hfl
          generalize V.seats[q].row = r at c0 HF2
          generalize V.seats[q].x = x at c1 HF2
          generalize V.kills.take m = KT at HS HXX HZl
          have bx := HXW.out _ HS.out.past
          obtain ⟨v0, v1, v2, v3, v4⟩ := bx.five
          have vl := bx.lt
          clear bx v1 v2 v3 v4
          go_wp2_with fail
          go_still_tail 12, mixed
          have HSd : Hid (PSt w1 { wr with drawn := wr.drawn + 1 } (Y ++ KT.flatMap (killLn V.seats))) := HS.out.next ((Below.refl wr.heap.size wr).drew)
          clear v0 vl c0 c1 sl kc kl HS
          generalize ({ wr with drawn := wr.drawn + 1 } : World) = wd at HSd ⊢
          have hfk := HF2.out wd HSd.out.past
          go_wp2_with fail
          refine hfk.mono ?_
          rintro e w7 ⟨rfl, hb7⟩
          have HS7 : Hid (PSt w1 w7 (Y ++ KT.flatMap (killLn V.seats))) := HSd.out.next hb7
          clear hb7 hfk HSd HF2
          go_wp2_with fail
          refine (ws_any w1.heap.size w1.heap.size (Y ++ KT.flatMap (killLn V.seats)) (L ++ [10]) _ HS7.out.bld (by have := HZl.out; simp at *; omega)).mono ?_
          rintro e w8 ⟨rfl, hB8, hb8⟩
          have HS8 : Hid (PSt w1 w8 (Y ++ KT.flatMap (killLn V.seats) ++ (L ++ [10]))) := HS7.out.wrote hB8 hb8
          clear hB8 hb8 HS7
          go_wp2_with fail
          go_roundw
          case rel => exact ⟨m + 1, by omega, by go_num, by rw [HXX.out, ← List.append_assoc]; exact HS8⟩
          case measure => simp [intOf]; omega
        · have hlmz : ¬ (m : Int) < (V.kills.length : Int) := by omega
          have HXX : Hid (V.kills.take m = V.kills) := List.take_of_length_le (by omega)
          rw [HXX.out] at HS
          have hZl : (Y ++ V.kills.flatMap (killLn V.seats)).length ≤ 2000000 := by
            have h1 := flat_bound (killLn V.seats) 60 V.kills (fun z hz => by
              obtain ⟨z0, z1⟩ := HV.out.kill z hz
              have hzn : z.toNat < V.seats.length := by omega
              obtain ⟨j0, j1, j2⟩ := HV.out.seat _ (List.getElem_mem hzn)
              have := factL_len tKill [V.seats[z.toNat].row, V.seats[z.toNat].x] (by intro n hn; simp only [List.mem_cons, List.not_mem_nil, or_false] at hn; rcases hn with rfl | rfl <;> assumption)
              unfold killLn
              rw [getElem!_pos V.seats z.toNat hzn, List.length_append, List.length_singleton]
              simp only [tKill, List.length_cons, List.length_nil] at this ⊢
              omega)
            rw [List.length_append]; omega
          clear HXX hYl
          generalize Y ++ V.kills.flatMap (killLn V.seats) = Z at HS hZl HPL
          have bx := HXW.out _ HS.out.past
          obtain ⟨v0, v1, v2, v3, v4⟩ := bx.five
          have vl := bx.lt
          clear bx v0 v1 v2 v3
          go_wp2_with fail
          clear v4 vl
          go_loopw [65] (fun i wr => ∃ k : Nat, k ≤ V.poles.length ∧ i = .int .i64 k ∧ Hid (PSt w1 wr (Z ++ (V.poles.take k).flatMap poleLn))) (fun i _ => V.poles.length - (intOf i).toNat)
          case atStart => exact ⟨0, Nat.zero_le _, rfl, by simpa using HS⟩
          case round =>
            clear HS
            obtain ⟨p, hp, rfl, HS⟩ := hrel
            have hpn := HV.out.pn
            by_cases hlp : p < V.poles.length
            · have hlpz : (p : Int) < (V.poles.length : Int) := by omega
              obtain ⟨pb, po, rfl, _, hC⟩ := sl_addr (HAW.out _ HS.out.past).p (by omega)
              have pc0 := hC.2 p hlp 0 _ rfl
              have pc1 := hC.2 p hlp 1 _ rfl
              have pc2 := hC.2 p hlp 2 _ rfl
              have pl := hC.1
              simp only [Nat.add_zero] at pc0
              obtain ⟨i0, i1, i2⟩ := HV.out.pole _ (List.getElem_mem hlp)
              have HXX : Hid ((V.poles.take (p + 1)).flatMap poleLn = (V.poles.take p).flatMap poleLn ++ (factL tPole [V.poles[p].x, V.poles[p].y, V.poles[p].r] ++ [10])) := flat_take _ _ _ hlp
              have hUl : (Z ++ (V.poles.take p).flatMap poleLn).length ≤ 3000000 := by
                have h1 := flat_bound poleLn 80 (V.poles.take p) (fun z hz => by
                  obtain ⟨j0, j1, j2⟩ := HV.out.pole z (List.mem_of_mem_take hz)
                  have := factL_len tPole [z.x, z.y, z.r] (by intro n hn; simp only [List.mem_cons, List.not_mem_nil, or_false] at hn; rcases hn with rfl | rfl | rfl <;> assumption)
                  unfold poleLn
                  rw [List.length_append, List.length_singleton]
                  simp only [tPole, List.length_cons, List.length_nil] at this ⊢
                  omega)
                rw [List.length_append]
                rw [List.length_take] at h1; omega
              have hfl := factL_len tPole [V.poles[p].x, V.poles[p].y, V.poles[p].r] (by intro n hn; simp only [List.mem_cons, List.not_mem_nil, or_false] at hn; rcases hn with rfl | rfl | rfl <;> assumption)
              simp only [tPole, List.length_cons, List.length_nil] at hfl
              have HF3 : Hid (∀ W, Below w1.heap.size w1 W → Calls Tryd.prog 18 #[.string ⟨[112, 111, 108, 101].toArray⟩, .slice (some ⟨W.heap.size, 0, none⟩) 3 3] (W.alloc (.cells #[.int .i64 V.poles[p].x, .int .i64 V.poles[p].y, .int .i64 V.poles[p].r] 3)) fun e w' => e = .returned (.string ⟨(factL [112, 111, 108, 101] [V.poles[p].x, V.poles[p].y, V.poles[p].r]).toArray⟩) ∧ Below W.heap.size W w') := fun W hW => fact3 tPole (by decide) _ _ _ i0 i1 i2 W (HP1.out W hW)
              have HUl : Hid ((Z ++ (V.poles.take p).flatMap poleLn).length ≤ 3000000) := hUl
              have HFE : Hid (tPole = [112, 111, 108, 101]) := rfl
              rw [HFE.out] at HXX
              clear hC i0 i1 i2 hUl HFE
              generalize factL [112, 111, 108, 101] [V.poles[p].x, V.poles[p].y, V.poles[p].r] = L at HF3 HXX hfl
              generalize V.poles[p].x = x at pc0 HF3
              generalize V.poles[p].y = y at pc1 HF3
              generalize V.poles[p].r = r at pc2 HF3
              generalize V.poles.take p = PT at HS HXX HUl
              have HAL : Hid (∀ o : Obj, PSt w1 (wr.alloc o) (Z ++ PT.flatMap poleLn)) := fun o => HS.out.next (below_alloc _ _)
              have hfk := HF3.out _ (HAL.out (.cells #[.int .i64 x, .int .i64 y, .int .i64 r] 42)).past
              rw [World.size_alloc] at hfk
              have HAL1 : Hid (PSt w1 (wr.alloc (.cells #[.int .i64 x, .int .i64 y, .int .i64 r] 42)) (Z ++ PT.flatMap poleLn)) := HAL.out _
              clear HAL HF3 HS
              go_wp2_with fail
              clear pc0 pc1 pc2 pl
              refine hfk.mono ?_
              rintro e w7 ⟨rfl, hb7⟩
              have HS7 : Hid (PSt w1 w7 (Z ++ PT.flatMap poleLn)) := HAL1.out.next (by rw [World.size_alloc]; exact hb7)
              clear hb7 hfk HAL1
              go_wp2_with fail
              refine (ws_any w1.heap.size w1.heap.size (Z ++ PT.flatMap poleLn) (L ++ [10]) _ HS7.out.bld (by have := HUl.out; simp at *; omega)).mono ?_
              rintro e w8 ⟨rfl, hB8, hb8⟩
              have HS8 : Hid (PSt w1 w8 (Z ++ PT.flatMap poleLn ++ (L ++ [10]))) := HS7.out.wrote hB8 hb8
              clear hB8 hb8 HS7
              go_wp2_with fail
              go_roundw
              case rel => exact ⟨p + 1, by omega, by go_num, by rw [HXX.out, ← List.append_assoc]; exact HS8⟩
              case measure => simp [intOf]; omega
            · have hlpz : ¬ (p : Int) < (V.poles.length : Int) := by omega
              have HXX : Hid (V.poles.take p = V.poles) := List.take_of_length_le (by omega)
              rw [HXX.out, ← HPL.out] at HS
              clear HXX HPL
              generalize hR : printL V = R at HS
              have HR : Hid (printL V = R) := hR
              clear hR
              go_wp2_with fail
              refine (str_any w1.heap.size w1.heap.size R _ HS.out.bld).mono ?_
              rintro e w9 ⟨rfl, hb9⟩
              have HB9 : Hid (Below w.heap.size w w9) := HB1.out.trans ((HS.out.past.trans hb9).mono HB1.out.size)
              clear hb9
              go_wp2
              go_ret2
              exact ⟨congrArg (fun z : List UInt8 => Ending.returned (.tuple #[.string ⟨z.toArray⟩, .int .i64 0])) HR.out.symm, HB9.out⟩
end Go.Proofs.YtpkjhlcolgoknaaDoor.Prn
