/- print.Venue by its contract: the manifest of a venue that may be; print.free, print.owner, print.sign by contracts; print.Map by its contract: a line for each row, a sign for each seat. -/
import Derived.Test.YtpkjhlcolgoknaaGreatDoorZbb
import Derived.Test.YtpkjhlcolgoknaaGreatDoorVOrdP
import Derived.StillTailTactics
import Derived.Deep.QuietTactic
import Derived.BigQuiet
namespace Go.Proofs.YtpkjhlcolgoknaaGreatDoor.Prn
set_option linter.unusedVariables false
set_option maxRecDepth 100000
open Go.RowKit Go.Shelf
open Go.Proofs.YtpkjhlcolgoknaaGreatDoor.Ven (Seat Pole Ven VenAt venV Box mayB mixed SeatAt below_alloc)

attribute [local go_sem] bapp
theorem fact1 (W : List UInt8) (hW : W.length ≤ 20) (a : Int) (ha : I64 a) (w : World) (hp : Pow w) :
    Calls Tryz.prog 43 #[.string ⟨W.toArray⟩, .slice (some ⟨w.heap.size, 0, none⟩) 1 1] (w.alloc (.cells #[.int .i64 a] 3)) fun e w' => e = .returned (.string ⟨(factL W [a]).toArray⟩) ∧ Below w.heap.size w w' := by
  have hb := below_alloc w (.cells #[.int .i64 a] 3)
  refine (fact_any W hW [a] (by intro n hn; simp at hn; subst hn; exact ha) (by simp) w.heap.size 0 1 _ (Ven.Box.cells (k := 1) (enc := Ven.intC) (fun _ => rfl) (Box.fresh _ _ _) rfl) (hp.next hb)).mono ?_
  rintro e w' ⟨rfl, h⟩
  exact ⟨rfl, hb.trans (h.mono hb.size)⟩
theorem fact2 (W : List UInt8) (hW : W.length ≤ 20) (a b : Int) (ha : I64 a) (hb' : I64 b) (w : World) (hp : Pow w) :
    Calls Tryz.prog 43 #[.string ⟨W.toArray⟩, .slice (some ⟨w.heap.size, 0, none⟩) 2 2] (w.alloc (.cells #[.int .i64 a, .int .i64 b] 3)) fun e w' => e = .returned (.string ⟨(factL W [a, b]).toArray⟩) ∧ Below w.heap.size w w' := by
  have hb := below_alloc w (.cells #[.int .i64 a, .int .i64 b] 3)
  refine (fact_any W hW [a, b] (by intro n hn; simp at hn; rcases hn with rfl | rfl <;> assumption) (by simp) w.heap.size 0 2 _ (Ven.Box.cells (k := 1) (enc := Ven.intC) (fun _ => rfl) (Box.fresh _ _ _) rfl) (hp.next hb)).mono ?_
  rintro e w' ⟨rfl, h⟩
  exact ⟨rfl, hb.trans (h.mono hb.size)⟩
theorem fact3 (W : List UInt8) (hW : W.length ≤ 20) (a b c : Int) (ha : I64 a) (hb' : I64 b) (hc : I64 c) (w : World) (hp : Pow w) :
    Calls Tryz.prog 43 #[.string ⟨W.toArray⟩, .slice (some ⟨w.heap.size, 0, none⟩) 3 3] (w.alloc (.cells #[.int .i64 a, .int .i64 b, .int .i64 c] 3)) fun e w' => e = .returned (.string ⟨(factL W [a, b, c]).toArray⟩) ∧ Below w.heap.size w w' := by
  have hb := below_alloc w (.cells #[.int .i64 a, .int .i64 b, .int .i64 c] 3)
  refine (fact_any W hW [a, b, c] (by intro n hn; simp at hn; rcases hn with rfl | rfl | rfl <;> assumption) (by simp) w.heap.size 0 3 _ (Ven.Box.cells (k := 1) (enc := Ven.intC) (fun _ => rfl) (Box.fresh _ _ _) rfl) (hp.next hb)).mono ?_
  rintro e w' ⟨rfl, h⟩
  exact ⟨rfl, hb.trans (h.mono hb.size)⟩

theorem coord64 {n : Int} (h : Ven.coordB n = true) : I64 n := by unfold Ven.coordB at h; unfold I64; simp at h; omega
theorem row64 {n : Int} (h : Ven.rowB n = true) : I64 n := by unfold Ven.rowB at h; unfold I64; simp at h; omega
theorem length64 {n : Int} (h : Ven.lengthB n = true) : I64 n := by unfold Ven.lengthB at h; unfold I64; simp at h; omega
theorem dist64 {n : Int} (h : Ven.distB n = true) : I64 n := by unfold Ven.distB at h; unfold I64; simp at h; omega
/-- What a venue that may be has. -/
structure MayV (V : Ven) : Prop where
  n1 : 1 ≤ V.seats.length
  n2 : V.seats.length ≤ 4096
  seat : ∀ s ∈ V.seats, I64 s.row ∧ I64 s.x ∧ I64 s.y
  gap : I64 V.gap
  radius : I64 V.radius
  kn : V.kills.length ≤ 200
  kill : ∀ k ∈ V.kills, 0 ≤ k ∧ k < V.seats.length
  rise : V.kills.Pairwise (fun a b => a < b)
  pn : V.poles.length ≤ 200
  pole : ∀ p ∈ V.poles, I64 p.x ∧ I64 p.y ∧ I64 p.r
theorem may_v {V : Ven} (h : mayB V = true) : MayV V := by
  unfold Ven.mayB at h
  simp only [Bool.and_eq_true] at h
  obtain ⟨⟨⟨⟨h1, h2⟩, h3⟩, h4⟩, h5⟩ := h
  obtain ⟨s1, s2, s3, _⟩ := (Ven.seatsB_iff _).1 h1
  obtain ⟨k1, k2, k3⟩ := (Ven.killsB_iff _ _).1 h4
  obtain ⟨p1, p2⟩ := (Ven.polesB_iff _).1 h5
  refine ⟨s1, s2, fun s hs => ?_, length64 h2, dist64 h3, k1, fun k hk => ?_, k3, p1, fun p hp => ?_⟩
  · have := s3 s hs
    unfold Ven.seatB Ven.standsB at this
    simp only [Bool.and_eq_true] at this
    exact ⟨row64 this.1.1, coord64 this.1.2.1, coord64 this.1.2.2⟩
  · have := k2 k hk
    unfold Ven.isSeatB at this
    simp at this; exact this
  · have := p2 p hp
    unfold Ven.poleB Ven.standsB at this
    simp only [Bool.and_eq_true] at this
    exact ⟨coord64 this.1.1, coord64 this.1.2, length64 this.2⟩
/-- What the loops hold: what was there is as it was, the builder holds so much. -/
structure PSt (W w : World) (X : List UInt8) : Prop where
  past : Below W.heap.size W w
  bld : Bld w W.heap.size W.heap.size X
theorem PSt.next {W w w' : World} {X : List UInt8} (h : PSt W w X) (hb : Below w.heap.size w w') : PSt W w' X := ⟨h.past.trans (hb.mono h.past.size), h.bld.next hb⟩
/-- A line more. -/
theorem PSt.wrote {W w w' : World} {X Y : List UInt8} (h : PSt W w X) (hB : Bld w' W.heap.size W.heap.size Y) (hb : Below W.heap.size w w') : PSt W w' Y := ⟨h.past.trans hb, hB⟩
theorem sl_addr {α : Type} {k : Nat} {enc : α → List Value} {w : World} {a : Option Addr} {n c : Nat} {l : List α} (h : Ven.Sl k enc w (.slice a n c) l) (hl : 0 < l.length) : ∃ b off, a = some ⟨b, off, none⟩ ∧ n = l.length ∧ Ven.Cells k enc w b off l := by
  rcases h with ⟨_, rfl⟩ | ⟨b, off, cap, he, _, _, hC⟩
  · simp at hl
  · injection he with h1 h2 h3
    exact ⟨b, off, h1, h2, hC⟩
set_option maxHeartbeats 1000000 in
theorem venue_no (a1 a2 a3 : Option Addr) (n1 c1 n2 c2 n3 c3 : Nat) (V : Ven) (w : World) (h : VenAt w a1 n1 c1 a2 n2 c2 a3 n3 c3 V) (hm : mayB V = false) :
    Calls Tryz.prog 24 #[venV a1 n1 c1 V.gap V.radius a2 n2 c2 a3 n3 c3] w fun e w' => e = .returned (.tuple #[.string ⟨#[]⟩, .int .i64 1]) ∧ Below w.heap.size w w' := by
  have hb := below_alloc w (.cells #[.slice a1 n1 c1, .int .i64 V.gap, .int .i64 V.radius, .slice a2 n2 c2, .slice a3 n3 c3] 33)
  have hmay := Ven.may_any a1 a2 a3 n1 c1 n2 c2 n3 c3 V _ (h.next hb)
  rw [hm] at hmay
  generalize V.gap = gap at hmay hb ⊢
  generalize V.radius = radius at hmay hb ⊢
  go_enter Tryz.func24, Tryz.ntmps24
  go_wp2_with fail
  refine hmay.mono ?_
  rintro e w1 ⟨rfl, hb1⟩
  go_wp2
  go_ret2
  exact ⟨rfl, hb.trans (hb1.mono hb.size)⟩
set_option maxHeartbeats 8000000 in
theorem venue_yes (a1 a2 a3 : Option Addr) (n1 c1 n2 c2 n3 c3 : Nat) (V : Ven) (w : World) (h : VenAt w a1 n1 c1 a2 n2 c2 a3 n3 c3 V) (hm : mayB V = true) (hp : Pow w) :
    Calls Tryz.prog 24 #[venV a1 n1 c1 V.gap V.radius a2 n2 c2 a3 n3 c3] w fun e w' => e = .returned (.tuple #[.string ⟨(printL V).toArray⟩, .int .i64 0]) ∧ Below w.heap.size w w' := by
  obtain rfl : n1 = V.seats.length := h.s.len
  obtain rfl : n2 = V.kills.length := h.k.len
  obtain rfl : n3 = V.poles.length := h.p.len
  have hb := below_alloc w (.cells #[.slice a1 V.seats.length c1, .int .i64 V.gap, .int .i64 V.radius, .slice a2 V.kills.length c2, .slice a3 V.poles.length c3] 33)
  have hmay := Ven.may_any a1 a2 a3 _ c1 _ c2 _ c3 V _ (h.next hb)
  rw [hm] at hmay
  have HV : Hid (MayV V) := may_v hm
  have HX := Box.fresh w 33 #[.slice a1 V.seats.length c1, .int .i64 V.gap, .int .i64 V.radius, .slice a2 V.kills.length c2, .slice a3 V.poles.length c3]
  have HA : Hid (VenAt w a1 V.seats.length c1 a2 V.kills.length c2 a3 V.poles.length c3 V) := h
  have HP : Hid (Pow w) := hp
  have hg1 := HV.out.gap
  have hg2 := HV.out.radius
  have HPL : Hid (printL V = (factL tGap [V.gap] ++ [10] ++ (factL tRadius [V.radius] ++ [10])) ++ V.seats.flatMap seatLn ++ V.kills.flatMap (killLn V.seats) ++ V.poles.flatMap poleLn) := rfl
  clear hm h hp
  generalize V.gap = gap at hmay hb HX hg1 HPL ⊢
  generalize V.radius = radius at hmay hb HX hg2 HPL ⊢
  go_enter Tryz.func24, Tryz.ntmps24
  go_wp2_with fail
  refine hmay.mono ?_
  rintro e w1 ⟨rfl, hb1⟩
  have HB1 : Hid (Below w.heap.size w w1) := hb.trans (hb1.mono hb.size)
  have HX1 : Hid (Box w1 w.heap.size 33 #[.slice a1 V.seats.length c1, .int .i64 gap, .int .i64 radius, .slice a2 V.kills.length c2, .slice a3 V.poles.length c3]) := HX.next hb1
  clear hb1 hb HX hmay
  have HS : Hid (PSt w1 (w1.alloc (.cells #[.pointer none, .slice none 0 0] 92)) []) := ⟨below_alloc _ _, Bld.fresh w1⟩
  have HP1 : Hid (∀ W, Below w1.heap.size w1 W → Pow W) := fun W hW => HP.out.next (HB1.out.trans (hW.mono HB1.out.size))
  have HXW : Hid (∀ W, Below w1.heap.size w1 W → Box W w.heap.size 33 #[.slice a1 V.seats.length c1, .int .i64 gap, .int .i64 radius, .slice a2 V.kills.length c2, .slice a3 V.poles.length c3]) := fun W hW => HX1.out.next hW
  have HAW : Hid (∀ W, Below w1.heap.size w1 W → VenAt W a1 V.seats.length c1 a2 V.kills.length c2 a3 V.poles.length c3 V) := fun W hW => HA.out.next (HB1.out.trans (hW.mono HB1.out.size))
  obtain ⟨v0, v1, v2, v3, v4⟩ := HX1.out.five
  have vl := HX1.out.lt
  have hf1 := fact1 tGap (by decide) gap hg1 _ (HP1.out _ HS.out.past)
  have hfl := factL_len tGap [gap] (by intro n hn; simp at hn; subst hn; exact hg1)
  simp only [tGap, List.length_cons, List.length_nil] at hfl
  have HFE : Hid (tGap = [103, 97, 112]) := rfl
  rw [HFE.out] at hf1 HPL
  rw [World.size_alloc] at hf1
  clear HX1 HFE v0 v2 v3 v4
  generalize factL [103, 97, 112] [gap] = X1 at hf1 hfl HPL
  go_wp2_with fail
  refine hf1.mono ?_
  rintro e w3 ⟨rfl, hb3⟩
  have HS3 : Hid (PSt w1 w3 []) := HS.out.next (by rw [World.size_alloc]; exact hb3)
  clear hb3 HS v1 vl hf1
  go_wp2_with fail
  refine (ws_any w1.heap.size w1.heap.size [] (X1 ++ [10]) _ HS3.out.bld (by simp; omega)).mono ?_
  rintro e w4 ⟨rfl, hB4, hb4⟩
  have HS4 : Hid (PSt w1 w4 (X1 ++ [10])) := HS3.out.wrote hB4 hb4
  clear hB4 hb4 HS3
  have bx := HXW.out _ HS4.out.past
  obtain ⟨v0, v1, v2, v3, v4⟩ := bx.five
  have vl := bx.lt
  have hf2 := fact1 tRadius (by decide) radius hg2 _ (HP1.out _ HS4.out.past)
  have hfl2 := factL_len tRadius [radius] (by intro n hn; simp at hn; subst hn; exact hg2)
  simp only [tRadius, List.length_cons, List.length_nil] at hfl2
  have HFE : Hid (tRadius = [114, 97, 100, 105, 117, 115]) := rfl
  rw [HFE.out] at hf2 HPL
  clear bx HFE v0 v1 v3 v4
  generalize factL [114, 97, 100, 105, 117, 115] [radius] = X2 at hf2 hfl2 HPL
  go_wp2_with fail
  refine hf2.mono ?_
  rintro e w5 ⟨rfl, hb5⟩
  have HS5 : Hid (PSt w1 w5 (X1 ++ [10])) := HS4.out.next hb5
  clear hb5 HS4 v2 vl hf2
  go_wp2_with fail
  refine (ws_any w1.heap.size w1.heap.size (X1 ++ [10]) (X2 ++ [10]) _ HS5.out.bld (by simp; omega)).mono ?_
  rintro e w6 ⟨rfl, hB6, hb6⟩
  have HS6 : Hid (PSt w1 w6 (X1 ++ [10] ++ (X2 ++ [10]))) := HS5.out.wrote hB6 hb6
  have hXl : (X1 ++ [10] ++ (X2 ++ [10])).length ≤ 100 := by simp; omega
  clear hB6 hb6 HS5 hfl hfl2 hg1 hg2
  generalize X1 ++ [10] ++ (X2 ++ [10]) = X at HS6 HPL hXl
  have bx := HXW.out _ HS6.out.past
  obtain ⟨v0, v1, v2, v3, v4⟩ := bx.five
  have vl := bx.lt
  clear bx v1 v2 v3 v4
  go_wp2_with fail
  clear v0 vl
  go_loopw [29] (fun i wr => ∃ k : Nat, k ≤ V.seats.length ∧ i = .int .i64 k ∧ Hid (PSt w1 wr (X ++ (V.seats.take k).flatMap seatLn))) (fun i _ => V.seats.length - (intOf i).toNat)
  case atStart => exact ⟨0, Nat.zero_le _, rfl, by simpa using HS6⟩
  case round =>
    clear HS6
    obtain ⟨k, hk, rfl, HS⟩ := hrel
    have hn2 := HV.out.n2
    have hn1 := HV.out.n1
    by_cases hlt : k < V.seats.length
    · have hltz : (k : Int) < (V.seats.length : Int) := by omega
      obtain ⟨sb, so, rfl, _, hC⟩ := sl_addr (HAW.out _ HS.out.past).s (by omega)
      obtain ⟨sl, c0, c1, c2, c3⟩ := hC.seat k hlt
      obtain ⟨i0, i1, i2⟩ := HV.out.seat _ (List.getElem_mem hlt)
      have HXX : Hid ((V.seats.take (k + 1)).flatMap seatLn = (V.seats.take k).flatMap seatLn ++ (seatL V.seats[k] ++ [10])) := flat_take _ _ _ hlt
      have hsl := seatL_len V.seats[k] i0 i1 i2
      have hYl : (X ++ (V.seats.take k).flatMap seatLn).length ≤ 1000000 := by
        have h1 := flat_bound seatLn 76 (V.seats.take k) (fun s hs => by
          obtain ⟨j0, j1, j2⟩ := HV.out.seat s (List.mem_of_mem_take hs)
          have := seatL_len s j0 j1 j2
          unfold seatLn; rw [List.length_append, List.length_singleton]; omega)
        have h2 := HV.out.n2
        rw [List.length_append]
        rw [List.length_take] at h1; omega
      have hse : ∀ W, Below w1.heap.size w1 W → Calls Tryz.prog 39 #[.agg #[.int .i64 V.seats[k].row, .int .i64 V.seats[k].x, .int .i64 V.seats[k].y, .int .i64 V.seats[k].kind]] W fun e w' => e = .returned (.string ⟨(seatL V.seats[k]).toArray⟩) ∧ Below W.heap.size W w' := fun W hW => seat_any V.seats[k] i0 i1 i2 W (HP1.out W hW)
      have HSE : Hid (∀ W, Below w1.heap.size w1 W → Calls Tryz.prog 39 #[.agg #[.int .i64 V.seats[k].row, .int .i64 V.seats[k].x, .int .i64 V.seats[k].y, .int .i64 V.seats[k].kind]] W fun e w' => e = .returned (.string ⟨(seatL V.seats[k]).toArray⟩) ∧ Below W.heap.size W w') := hse
      clear hC i0 i1 i2 hse
      generalize seatL V.seats[k] = L at HSE HXX hsl
      generalize V.seats[k].row = r at c0 HSE
      generalize V.seats[k].x = x at c1 HSE
      generalize V.seats[k].y = y at c2 HSE
      generalize V.seats[k].kind = kk at c3 HSE
      have HAL : Hid (∀ o : Obj, PSt w1 (wr.alloc o) (X ++ (V.seats.take k).flatMap seatLn)) := fun o => HS.out.next (below_alloc _ _)
      have HYl : Hid ((X ++ (V.seats.take k).flatMap seatLn).length ≤ 1000000) := hYl
      clear hYl
      go_wp2_with fail
      clear c0 c1 c2 c3 sl
      refine (HSE.out _ (HAL.out _).past).mono ?_
      rintro e w7 ⟨rfl, hb7⟩
      have HS7 : Hid (PSt w1 w7 (X ++ (V.seats.take k).flatMap seatLn)) := (HAL.out _).next hb7
      clear hb7 HSE
      go_wp2_with fail
      refine (ws_any w1.heap.size w1.heap.size (X ++ (V.seats.take k).flatMap seatLn) (L ++ [10]) _ HS7.out.bld (by have := HYl.out; simp at *; omega)).mono ?_
      rintro e w8 ⟨rfl, hB8, hb8⟩
      have HS8 : Hid (PSt w1 w8 (X ++ (V.seats.take k).flatMap seatLn ++ (L ++ [10]))) := HS7.out.wrote hB8 hb8
      clear hB8 hb8 HS7
      go_wp2_with fail
      go_roundw
      case rel => exact ⟨k + 1, by omega, by go_num, by rw [HXX.out, ← List.append_assoc]; exact HS8⟩
      case measure => simp [intOf]; omega
    · have hltz : ¬ (k : Int) < (V.seats.length : Int) := by omega
      have HXX : Hid (V.seats.take k = V.seats) := List.take_of_length_le (by omega)
      rw [HXX.out] at HS
      have hYl : (X ++ V.seats.flatMap seatLn).length ≤ 1000000 := by
        have h1 := flat_bound seatLn 76 V.seats (fun s hs => by
          obtain ⟨j0, j1, j2⟩ := HV.out.seat s hs
          have := seatL_len s j0 j1 j2
          unfold seatLn; rw [List.length_append, List.length_singleton]; omega)
        have h2 := HV.out.n2
        rw [List.length_append]; omega
      clear HXX
      generalize X ++ V.seats.flatMap seatLn = Y at HS hYl HPL
      have bx := HXW.out _ HS.out.past
      obtain ⟨v0, v1, v2, v3, v4⟩ := bx.five
      have vl := bx.lt
      clear bx v0 v1 v2 v4
      go_wp2_with fail
      clear v3 vl hXl
      go_loopw [41] (fun i wr => ∃ k : Nat, k ≤ V.kills.length ∧ i = .int .i64 k ∧ Hid (PSt w1 wr (Y ++ (V.kills.take k).flatMap (killLn V.seats)))) (fun i _ => V.kills.length - (intOf i).toNat)
      case atStart => exact ⟨0, Nat.zero_le _, rfl, by simpa using HS⟩
      case round =>
        clear HS
        obtain ⟨m, hm, rfl, HS⟩ := hrel
        have hkn := HV.out.kn
        by_cases hlm : m < V.kills.length
        · have hlmz : (m : Int) < (V.kills.length : Int) := by omega
          obtain ⟨sb, so, rfl, _, hC⟩ := sl_addr (HAW.out _ HS.out.past).s (by omega)
          obtain ⟨kb, ko, rfl, _, hK⟩ := sl_addr (HAW.out _ HS.out.past).k (by omega)
          have kc := cellsInt hK m hlm
          have kl := hK.1
          obtain ⟨hq0, hq1⟩ := HV.out.kill _ (List.getElem_mem hlm)
          obtain ⟨q, hq⟩ := Int.eq_ofNat_of_zero_le hq0
          rw [hq] at kc hq1
          have hqn : q < V.seats.length := by omega
          obtain ⟨sl, c0, c1, c2, c3⟩ := hC.seat q hqn
          obtain ⟨i0, i1, i2⟩ := HV.out.seat _ (List.getElem_mem hqn)
          have HXX : Hid ((V.kills.take (m + 1)).flatMap (killLn V.seats) = (V.kills.take m).flatMap (killLn V.seats) ++ (factL tKill [V.seats[q].row, V.seats[q].x] ++ [10])) := by
            show _ = _
            rw [flat_take _ _ _ hlm]
            unfold killLn
            rw [hq, Int.toNat_natCast, getElem!_pos V.seats q hqn]
          have hZl : (Y ++ (V.kills.take m).flatMap (killLn V.seats)).length ≤ 2000000 := by
            have h1 := flat_bound (killLn V.seats) 60 (V.kills.take m) (fun z hz => by
              obtain ⟨z0, z1⟩ := HV.out.kill z (List.mem_of_mem_take hz)
              have hzn : z.toNat < V.seats.length := by omega
              obtain ⟨j0, j1, j2⟩ := HV.out.seat _ (List.getElem_mem hzn)
              have := factL_len tKill [V.seats[z.toNat].row, V.seats[z.toNat].x] (by intro n hn; simp only [List.mem_cons, List.not_mem_nil, or_false] at hn; rcases hn with rfl | rfl <;> assumption)
              unfold killLn
              rw [getElem!_pos V.seats z.toNat hzn, List.length_append, List.length_singleton]
              simp only [tKill, List.length_cons, List.length_nil] at this ⊢
              omega)
            rw [List.length_append]
            rw [List.length_take] at h1; omega
          have hfl := factL_len tKill [V.seats[q].row, V.seats[q].x] (by intro n hn; simp only [List.mem_cons, List.not_mem_nil, or_false] at hn; rcases hn with rfl | rfl <;> assumption)
          simp only [tKill, List.length_cons, List.length_nil] at hfl
          have HF2 : Hid (∀ W, Below w1.heap.size w1 W → Calls Tryz.prog 43 #[.string ⟨[107, 105, 108, 108].toArray⟩, .slice (some ⟨W.heap.size, 0, none⟩) 2 2] (W.alloc (.cells #[.int .i64 V.seats[q].row, .int .i64 V.seats[q].x] 3)) fun e w' => e = .returned (.string ⟨(factL [107, 105, 108, 108] [V.seats[q].row, V.seats[q].x]).toArray⟩) ∧ Below W.heap.size W w') := fun W hW => fact2 tKill (by decide) _ _ i0 i1 W (HP1.out W hW)
          have HZl : Hid ((Y ++ (V.kills.take m).flatMap (killLn V.seats)).length ≤ 2000000) := hZl
          have HFE : Hid (tKill = [107, 105, 108, 108]) := rfl
          rw [HFE.out] at HXX
          clear hC hK i0 i1 i2 c2 c3 hq hq0 hZl HFE
          generalize factL [107, 105, 108, 108] [V.seats[q].row, V.seats[q].x] = L at HF2 HXX hfl
          generalize V.seats[q].row = r at c0 HF2
          generalize V.seats[q].x = x at c1 HF2
          generalize V.kills.take m = KT at HS HXX HZl
          have bx := HXW.out _ HS.out.past
          obtain ⟨v0, v1, v2, v3, v4⟩ := bx.five
          have vl := bx.lt
          clear bx v1 v2 v3 v4
          go_wp2_with fail
          go_still_tail 12, mixed
          have HSd : Hid (PSt w1 { wr with drawn := wr.drawn + 1 } (Y ++ KT.flatMap (killLn V.seats))) := HS.out.next ((Below.refl wr.heap.size wr).drew)
          clear v0 vl c0 c1 sl kc kl HS
          generalize ({ wr with drawn := wr.drawn + 1 } : World) = wd at HSd ⊢
          have hfk := HF2.out wd HSd.out.past
          go_wp2_with fail
          refine hfk.mono ?_
          rintro e w7 ⟨rfl, hb7⟩
          have HS7 : Hid (PSt w1 w7 (Y ++ KT.flatMap (killLn V.seats))) := HSd.out.next hb7
          clear hb7 hfk HSd HF2
          go_wp2_with fail
          refine (ws_any w1.heap.size w1.heap.size (Y ++ KT.flatMap (killLn V.seats)) (L ++ [10]) _ HS7.out.bld (by have := HZl.out; simp at *; omega)).mono ?_
          rintro e w8 ⟨rfl, hB8, hb8⟩
          have HS8 : Hid (PSt w1 w8 (Y ++ KT.flatMap (killLn V.seats) ++ (L ++ [10]))) := HS7.out.wrote hB8 hb8
          clear hB8 hb8 HS7
          go_wp2_with fail
          go_roundw
          case rel => exact ⟨m + 1, by omega, by go_num, by rw [HXX.out, ← List.append_assoc]; exact HS8⟩
          case measure => simp [intOf]; omega
        · have hlmz : ¬ (m : Int) < (V.kills.length : Int) := by omega
          have HXX : Hid (V.kills.take m = V.kills) := List.take_of_length_le (by omega)
          rw [HXX.out] at HS
          have hZl : (Y ++ V.kills.flatMap (killLn V.seats)).length ≤ 2000000 := by
            have h1 := flat_bound (killLn V.seats) 60 V.kills (fun z hz => by
              obtain ⟨z0, z1⟩ := HV.out.kill z hz
              have hzn : z.toNat < V.seats.length := by omega
              obtain ⟨j0, j1, j2⟩ := HV.out.seat _ (List.getElem_mem hzn)
              have := factL_len tKill [V.seats[z.toNat].row, V.seats[z.toNat].x] (by intro n hn; simp only [List.mem_cons, List.not_mem_nil, or_false] at hn; rcases hn with rfl | rfl <;> assumption)
              unfold killLn
              rw [getElem!_pos V.seats z.toNat hzn, List.length_append, List.length_singleton]
              simp only [tKill, List.length_cons, List.length_nil] at this ⊢
              omega)
            rw [List.length_append]; omega
          clear HXX hYl
          generalize Y ++ V.kills.flatMap (killLn V.seats) = Z at HS hZl HPL
          have bx := HXW.out _ HS.out.past
          obtain ⟨v0, v1, v2, v3, v4⟩ := bx.five
          have vl := bx.lt
          clear bx v0 v1 v2 v3
          go_wp2_with fail
          clear v4 vl
          go_loopw [65] (fun i wr => ∃ k : Nat, k ≤ V.poles.length ∧ i = .int .i64 k ∧ Hid (PSt w1 wr (Z ++ (V.poles.take k).flatMap poleLn))) (fun i _ => V.poles.length - (intOf i).toNat)
          case atStart => exact ⟨0, Nat.zero_le _, rfl, by simpa using HS⟩
          case round =>
            clear HS
            obtain ⟨p, hp, rfl, HS⟩ := hrel
            have hpn := HV.out.pn
            by_cases hlp : p < V.poles.length
            · have hlpz : (p : Int) < (V.poles.length : Int) := by omega
              obtain ⟨pb, po, rfl, _, hC⟩ := sl_addr (HAW.out _ HS.out.past).p (by omega)
              have pc0 := hC.2 p hlp 0 _ rfl
              have pc1 := hC.2 p hlp 1 _ rfl
              have pc2 := hC.2 p hlp 2 _ rfl
              have pl := hC.1
              simp only [Nat.add_zero] at pc0
              obtain ⟨i0, i1, i2⟩ := HV.out.pole _ (List.getElem_mem hlp)
              have HXX : Hid ((V.poles.take (p + 1)).flatMap poleLn = (V.poles.take p).flatMap poleLn ++ (factL tPole [V.poles[p].x, V.poles[p].y, V.poles[p].r] ++ [10])) := flat_take _ _ _ hlp
              have hUl : (Z ++ (V.poles.take p).flatMap poleLn).length ≤ 3000000 := by
                have h1 := flat_bound poleLn 80 (V.poles.take p) (fun z hz => by
                  obtain ⟨j0, j1, j2⟩ := HV.out.pole z (List.mem_of_mem_take hz)
                  have := factL_len tPole [z.x, z.y, z.r] (by intro n hn; simp only [List.mem_cons, List.not_mem_nil, or_false] at hn; rcases hn with rfl | rfl | rfl <;> assumption)
                  unfold poleLn
                  rw [List.length_append, List.length_singleton]
                  simp only [tPole, List.length_cons, List.length_nil] at this ⊢
                  omega)
                rw [List.length_append]
                rw [List.length_take] at h1; omega
              have hfl := factL_len tPole [V.poles[p].x, V.poles[p].y, V.poles[p].r] (by intro n hn; simp only [List.mem_cons, List.not_mem_nil, or_false] at hn; rcases hn with rfl | rfl | rfl <;> assumption)
              simp only [tPole, List.length_cons, List.length_nil] at hfl
              have HF3 : Hid (∀ W, Below w1.heap.size w1 W → Calls Tryz.prog 43 #[.string ⟨[112, 111, 108, 101].toArray⟩, .slice (some ⟨W.heap.size, 0, none⟩) 3 3] (W.alloc (.cells #[.int .i64 V.poles[p].x, .int .i64 V.poles[p].y, .int .i64 V.poles[p].r] 3)) fun e w' => e = .returned (.string ⟨(factL [112, 111, 108, 101] [V.poles[p].x, V.poles[p].y, V.poles[p].r]).toArray⟩) ∧ Below W.heap.size W w') := fun W hW => fact3 tPole (by decide) _ _ _ i0 i1 i2 W (HP1.out W hW)
              have HUl : Hid ((Z ++ (V.poles.take p).flatMap poleLn).length ≤ 3000000) := hUl
              have HFE : Hid (tPole = [112, 111, 108, 101]) := rfl
              rw [HFE.out] at HXX
              clear hC i0 i1 i2 hUl HFE
              generalize factL [112, 111, 108, 101] [V.poles[p].x, V.poles[p].y, V.poles[p].r] = L at HF3 HXX hfl
              generalize V.poles[p].x = x at pc0 HF3
              generalize V.poles[p].y = y at pc1 HF3
              generalize V.poles[p].r = r at pc2 HF3
              generalize V.poles.take p = PT at HS HXX HUl
              have HAL : Hid (∀ o : Obj, PSt w1 (wr.alloc o) (Z ++ PT.flatMap poleLn)) := fun o => HS.out.next (below_alloc _ _)
              have hfk := HF3.out _ (HAL.out (.cells #[.int .i64 x, .int .i64 y, .int .i64 r] 85)).past
              rw [World.size_alloc] at hfk
              have HAL1 : Hid (PSt w1 (wr.alloc (.cells #[.int .i64 x, .int .i64 y, .int .i64 r] 85)) (Z ++ PT.flatMap poleLn)) := HAL.out _
              clear HAL HF3 HS
              go_wp2_with fail
              clear pc0 pc1 pc2 pl
              refine hfk.mono ?_
              rintro e w7 ⟨rfl, hb7⟩
              have HS7 : Hid (PSt w1 w7 (Z ++ PT.flatMap poleLn)) := HAL1.out.next (by rw [World.size_alloc]; exact hb7)
              clear hb7 hfk HAL1
              go_wp2_with fail
              refine (ws_any w1.heap.size w1.heap.size (Z ++ PT.flatMap poleLn) (L ++ [10]) _ HS7.out.bld (by have := HUl.out; simp at *; omega)).mono ?_
              rintro e w8 ⟨rfl, hB8, hb8⟩
              have HS8 : Hid (PSt w1 w8 (Z ++ PT.flatMap poleLn ++ (L ++ [10]))) := HS7.out.wrote hB8 hb8
              clear hB8 hb8 HS7
              go_wp2_with fail
              go_roundw
              case rel => exact ⟨p + 1, by omega, by go_num, by rw [HXX.out, ← List.append_assoc]; exact HS8⟩
              case measure => simp [intOf]; omega
            · have hlpz : ¬ (p : Int) < (V.poles.length : Int) := by omega
              have HXX : Hid (V.poles.take p = V.poles) := List.take_of_length_le (by omega)
              rw [HXX.out, ← HPL.out] at HS
              clear HXX HPL
              generalize hR : printL V = R at HS
              have HR : Hid (printL V = R) := hR
              clear hR
              go_wp2_with fail
              refine (str_any w1.heap.size w1.heap.size R _ HS.out.bld).mono ?_
              rintro e w9 ⟨rfl, hb9⟩
              have HB9 : Hid (Below w.heap.size w w9) := HB1.out.trans ((HS.out.past.trans hb9).mono HB1.out.size)
              clear hb9
              go_wp2
              go_ret2
              exact ⟨congrArg (fun z : List UInt8 => Ending.returned (.tuple #[.string ⟨z.toArray⟩, .int .i64 0])) HR.out.symm, HB9.out⟩
end Go.Proofs.YtpkjhlcolgoknaaGreatDoor.Prn

namespace Go.Proofs.YtpkjhlcolgoknaaGreatDoor.Prn
set_option linter.unusedVariables false
set_option maxRecDepth 100000
open Go.RowKit Go.Shelf
open Go.Proofs.YtpkjhlcolgoknaaGreatDoor.Ven (Seat Pole Ven VenAt venV Box mayB mixed SeatAt below_alloc)

theorem free_any (k : Int) (w : World) : Calls Tryz.prog 98 #[.int .i64 k] w fun e w' => e = .returned (.int .u8 ((freeL k).toNat : Int)) ∧ w' = w := by
  unfold freeL
  by_cases h1 : k = 1
  · subst h1
    go_enter Tryz.func98, Tryz.ntmps98
    go_wp2
    go_ret
    exact ⟨rfl, rfl⟩
  rw [if_neg h1]
  by_cases h2 : k = 2
  · subst h2
    go_enter Tryz.func98, Tryz.ntmps98
    go_wp2
    go_ret
    exact ⟨rfl, rfl⟩
  rw [if_neg h2]
  go_enter Tryz.func98, Tryz.ntmps98
  go_wp2
  go_ret
  exact ⟨rfl, rfl⟩
/-- A slice of ints that came in: of no length, or a row of 'cap' cells. -/
def IsRow (k : IntKind) (w : World) (a : Option Addr) (len cap : Nat) (zs : List Int) : Prop :=
  (a = none ∧ len = 0 ∧ cap = 0 ∧ zs = []) ∨
  ∃ x, a = some x ∧ len ≤ cap ∧ cap ≤ maxLen ∧ zs.length = cap ∧ (∀ i, i < zs.length → w.cell? (x.add i) = some (.int k (zs.getD i 0))) ∧ ∀ n ∈ zs, (Lit.int k n).wf = true
/-- The numbers of such a slice, as far as it is long. -/
def Own (w : World) (a : Option Addr) (len : Nat) (l : List Int) : Prop := l.length = len ∧ len ≤ maxLen ∧ (len = 0 ∨ ∃ b off, a = some ⟨b, off, none⟩ ∧ b < w.heap.size ∧ ∀ i (h : i < l.length), w.cell? ⟨b, off + i, none⟩ = some (.int .i64 l[i]))
theorem Own.next {w w' : World} {a : Option Addr} {len : Nat} {l : List Int} (h : Own w a len l) (hb : Below w.heap.size w w') : Own w' a len l := by
  obtain ⟨h1, hm, h2 | ⟨b, off, h2, h3, h4⟩⟩ := h
  · exact ⟨h1, hm, .inl h2⟩
  · exact ⟨h1, hm, .inr ⟨b, off, h2, Nat.lt_of_lt_of_le h3 hb.size, fun i hi => by rw [hb.cell (p := ⟨b, off + i, none⟩) h3]; exact h4 i hi⟩⟩
theorem IsRow.own {w : World} {a : Option Addr} {len cap : Nat} {zs : List Int} (h : IsRow .i64 w a len cap zs) : Own w a len (zs.take len) := by
  rcases h with ⟨rfl, rfl, rfl, rfl⟩ | ⟨x, rfl, hl, hm, hz, hcell, _⟩
  · exact ⟨rfl, Nat.zero_le _, .inl rfl⟩
  · refine ⟨by rw [List.length_take]; omega, by omega, ?_⟩
    rcases Nat.eq_zero_or_pos len with h0 | h0
    · exact .inl h0
    · obtain ⟨b, off, rfl, hc⟩ := ints_at hcell (show 0 < zs.length by omega)
      refine .inr ⟨b, off, rfl, ?_, fun i hi => ?_⟩
      · have h1 := hc 0 (by omega)
        rcases Nat.lt_or_ge b w.heap.size with h' | h'
        · exact h'
        · simp [World.cell?, Array.getElem?_eq_none h'] at h1
      · rw [List.length_take] at hi
        have := hc i (by omega)
        rw [this, List.getElem_take]
        simp [List.getD, show i < zs.length by omega]
theorem owner_any (a : Option Addr) (len cap : Nat) (l : List Int) (i : Nat) (hi : i ≤ 10000) (w : World) (h : Own w a len l) :
    Calls Tryz.prog 69 #[.slice a len cap, .int .i64 i] w fun e w' => e = .returned (.int .i64 (l.getD i 0)) ∧ w' = w := by
  obtain ⟨rfl, hm, h⟩ := h
  unfold maxLen at hm
  by_cases hlt : i < l.length
  · have hz : (i : Int) < (l.length : Int) := by omega
    obtain ⟨b, off, rfl, hb, hc⟩ : ∃ b off, a = some ⟨b, off, none⟩ ∧ b < w.heap.size ∧ ∀ i (h : i < l.length), w.cell? ⟨b, off + i, none⟩ = some (.int .i64 l[i]) := by
      rcases h with h | h
      · omega
      · exact h
    have c := hc i hlt
    have HE : Hid (l.getD i 0 = l[i]) := by show _ = _; simp [List.getD, hlt]
    rw [HE.out]
    clear hc
    generalize l[i] = z at c ⊢
    go_enter Tryz.func69, Tryz.ntmps69
    go_wp2
    go_ret
    exact ⟨rfl, rfl⟩
  · have hz : ¬ (i : Int) < (l.length : Int) := by omega
    have HE : l.getD i 0 = 0 := by simp [List.getD, List.getElem?_eq_none (Nat.le_of_not_lt hlt)]
    rw [HE]
    clear HE
    go_enter Tryz.func69, Tryz.ntmps69
    go_wp2
    go_ret
    exact ⟨rfl, rfl⟩
/-- A seat's sign by the number of its owner. -/
def signO (V : Ven) (o : Int) (i : Nat) : UInt8 := if (i : Int) ∈ V.kills then 120 else if 0 < o then 35 else if o < 0 then 45 else freeL (V.seats[i]!).kind
theorem signL_o (V : Ven) (own : List Int) (i : Nat) : signL V own i = signO V (own.getD i 0) i := rfl
/-- Among the kills? -/
theorem search_any (a : Option Addr) (c : Nat) (l : List Int) (x : Int) (hr : l.Pairwise (fun a b => a < b)) (hl : l.length ≤ 200) (w : World) (h : Ven.Sl 1 Ven.intC w (.slice a l.length c) l) :
    Calls Tryz.prog 97 #[.slice a l.length c, .int .i64 x] w fun e w' => (∃ p : Int, e = .returned (.tuple #[.int .i64 p, .bool (decide (x ∈ l))])) ∧ Below w.heap.size w w' := by
  by_cases h0 : l.length = 0
  · have hn : l = [] := List.length_eq_zero_iff.1 h0
    subst hn
    refine (Tryz.slices_BinarySearch_int_empty a c x w).mono ?_
    rintro e w' ⟨rfl, rfl⟩
    exact ⟨⟨_, rfl⟩, Below.refl _ _⟩
  · obtain ⟨b, off, rfl, _, hC⟩ := sl_addr h (by omega)
    refine (Tryz.slices_BinarySearch_int b off l.length c l x w (Nat.le_refl _) (by omega) (fun j hj => ?_) ?_).mono ?_
    · rw [cellsInt hC j hj]; simp [List.getD, hj]
    · rw [List.take_length]; exact hr.imp fun h => by omega
    · rintro e w' ⟨rfl, q, rfl⟩
      have hc : (l.take l.length).contains x = decide (x ∈ l) := by rw [List.take_length]; simp
      refine ⟨⟨(((l.take l.length).countP (· < x) : Nat) : Int), by rw [hc]⟩, ?_⟩
      exact (⟨rfl, rfl, rfl, Nat.le_refl _, fun _ _ => rfl⟩ : Below w.heap.size w (w.drewN q))
set_option maxHeartbeats 2000000 in
theorem sign_any (a1 a2 a3 : Option Addr) (n1 c1 n2 c2 n3 c3 : Nat) (V : Ven) (i : Nat) (o : Int) (w : World) (h : VenAt w a1 n1 c1 a2 n2 c2 a3 n3 c3 V) (hV : MayV V) (hi : i < V.seats.length) :
    Calls Tryz.prog 68 #[venV a1 n1 c1 V.gap V.radius a2 n2 c2 a3 n3 c3, .int .i64 i, .int .i64 o] w fun e w' => e = .returned (.int .u8 ((signO V o i).toNat : Int)) ∧ Below w.heap.size w w' := by
  obtain rfl : n1 = V.seats.length := h.s.len
  obtain rfl : n2 = V.kills.length := h.k.len
  obtain rfl : n3 = V.poles.length := h.p.len
  have hn2 := hV.n2
  have hb := below_alloc w (.cells #[.slice a1 V.seats.length c1, .int .i64 V.gap, .int .i64 V.radius, .slice a2 V.kills.length c2, .slice a3 V.poles.length c3] 33)
  have hs := search_any a2 c2 V.kills i hV.rise hV.kn _ (h.next hb).k
  obtain ⟨sb, so, rfl, _, hC⟩ := sl_addr h.s (by omega)
  obtain ⟨sl, q0, q1, q2, q3⟩ := hC.seat i hi
  have HB : Hid (Below w.heap.size w (w.alloc (.cells #[.slice (some ⟨sb, so, none⟩) V.seats.length c1, .int .i64 V.gap, .int .i64 V.radius, .slice a2 V.kills.length c2, .slice a3 V.poles.length c3] 33))) := hb
  have HX : Hid (Box (w.alloc (.cells #[.slice (some ⟨sb, so, none⟩) V.seats.length c1, .int .i64 V.gap, .int .i64 V.radius, .slice a2 V.kills.length c2, .slice a3 V.poles.length c3] 33)) w.heap.size 33 #[.slice (some ⟨sb, so, none⟩) V.seats.length c1, .int .i64 V.gap, .int .i64 V.radius, .slice a2 V.kills.length c2, .slice a3 V.poles.length c3]) := Box.fresh _ _ _
  have HQ : Hid (∀ W, Below w.heap.size w W → W.cell? ⟨sb, so + i * 4 + 3, none⟩ = some (.int .i64 V.seats[i].kind) ∧ sb < W.heap.size) := fun W hW => ⟨by rw [hW.cell (p := ⟨sb, so + i * 4 + 3, none⟩) sl]; exact q3, Nat.lt_of_lt_of_le sl hW.size⟩
  have HO : Hid (signO V o i = if decide ((i : Int) ∈ V.kills) = true then 120 else if 0 < o then 35 else if o < 0 then 45 else freeL V.seats[i].kind) := by
    show _ = _
    unfold signO
    rw [getElem!_pos V.seats i hi]
    simp only [decide_eq_true_eq]
  rw [HO.out]
  clear HO h hb q0 q1 q2 q3 sl hC hV
  generalize decide ((i : Int) ∈ V.kills) = kb at hs ⊢
  generalize V.seats[i].kind = kk at HQ ⊢
  generalize V.gap = gap at hs HB HX ⊢
  generalize V.radius = radius at hs HB HX ⊢
  go_enter Tryz.func68, Tryz.ntmps68
  go_wp2_with fail
  refine hs.mono ?_
  rintro e w1 ⟨⟨p, rfl⟩, hb1⟩
  have HB1 : Hid (Below w.heap.size w w1) := HB.out.trans (hb1.mono HB.out.size)
  obtain ⟨v0, v1, v2, v3, v4⟩ := (HX.out.next hb1).five
  have vl := (HX.out.next hb1).lt
  obtain ⟨qc, ql⟩ := HQ.out w1 HB1.out
  clear hs hb1 HB HX HQ v1 v2 v3 v4
  cases kb
  · by_cases h1 : 0 < o
    · go_wp2
      go_ret
      exact ⟨rfl, HB1.out⟩
    · by_cases h2 : o < 0
      · go_wp2
        go_ret
        exact ⟨rfl, HB1.out⟩
      · go_wp2_with (go_at_call 98; refine (free_any _ _).mono ?_; rintro e w' ⟨rfl, rfl⟩)
        go_ret
        exact ⟨rfl, HB1.out⟩
  · go_wp2
    go_ret
    exact ⟨rfl, HB1.out⟩
end Go.Proofs.YtpkjhlcolgoknaaGreatDoor.Prn

namespace Go.Proofs.YtpkjhlcolgoknaaGreatDoor.Prn
set_option linter.unusedVariables false
set_option maxRecDepth 100000
open Go.RowKit Go.Shelf
open Go.Proofs.YtpkjhlcolgoknaaGreatDoor.Ven (Seat Pole Ven VenAt venV Box mayB mixed SeatAt below_alloc)

attribute [local go_sem] bapp
theorem itoa_any (n : Int) (hn : I64 n) (w : World) (hp : Pow w) :
    Calls Tryz.prog 67 #[.int .i64 n] w fun e w' => e = .returned (.string ⟨(Lib.itoa n).toArray⟩) ∧ Below w.heap.size w w' := by
  refine (Tryz.strconv_Itoa n hn.1 hn.2 w hp).mono ?_
  rintro e w' ⟨rfl, k, os, rfl⟩
  exact ⟨rfl, ⟨rfl, rfl, rfl, by simp [Sort.grow, World.drewN], fun i hi => by simp [Sort.grow, World.drewN, Array.getElem?_append_left hi]⟩⟩
theorem drewN_below (w : World) (n : Nat) : Below w.heap.size w (w.drewN n) := ⟨rfl, rfl, rfl, Nat.le_refl _, fun _ _ => rfl⟩
theorem frontL_zero (V : Ven) (h : 0 < V.seats.length) : frontL V 0 = Lib.itoa V.seats[0].row ++ [32] := by
  unfold frontL; rw [if_pos rfl, getElem!_pos V.seats 0 h]
theorem frontL_same (V : Ven) (j : Nat) (h : j + 1 < V.seats.length) (hr : V.seats[j + 1].row = V.seats[j].row) : frontL V (j + 1) = [] := by
  unfold frontL; rw [if_neg (by omega), getElem!_pos V.seats (j + 1) h, Nat.add_sub_cancel, getElem!_pos V.seats j (by omega), if_pos hr]
theorem frontL_other (V : Ven) (j : Nat) (h : j + 1 < V.seats.length) (hr : ¬ V.seats[j + 1].row = V.seats[j].row) : frontL V (j + 1) = [10] ++ (Lib.itoa V.seats[j + 1].row ++ [32]) := by
  unfold frontL; rw [if_neg (by omega), getElem!_pos V.seats (j + 1) h, Nat.add_sub_cancel, getElem!_pos V.seats j (by omega), if_neg hr]; rfl
theorem mapTo_len (V : Ven) (own : List Int) (hV : MayV V) : ∀ n, n ≤ V.seats.length → (mapTo V own n).length ≤ n * 24
  | 0, _ => by simp [mapTo_zero]
  | n + 1, h => by
    have h1 := mapTo_len V own hV n (by omega)
    have h2 := frontL_len V n (by rw [getElem!_pos V.seats n (by omega)]; exact (hV.seat _ (List.getElem_mem _)).1)
    rw [mapTo_succ, List.length_append, List.length_append, List.length_singleton]; omega
set_option maxHeartbeats 1000000 in
theorem map_no (a1 a2 a3 : Option Addr) (n1 c1 n2 c2 n3 c3 : Nat) (V : Ven) (ao : Option Addr) (len cap : Nat) (w : World) (h : VenAt w a1 n1 c1 a2 n2 c2 a3 n3 c3 V) (hm : mayB V = false) :
    Calls Tryz.prog 40 #[venV a1 n1 c1 V.gap V.radius a2 n2 c2 a3 n3 c3, .slice ao len cap] w fun e w' => e = .returned (.string ⟨#[]⟩) ∧ Below w.heap.size w w' := by
  have hb := below_alloc w (.cells #[.slice a1 n1 c1, .int .i64 V.gap, .int .i64 V.radius, .slice a2 n2 c2, .slice a3 n3 c3] 33)
  have hmay := Ven.may_any a1 a2 a3 n1 c1 n2 c2 n3 c3 V _ (h.next hb)
  rw [hm] at hmay
  generalize V.gap = gap at hmay hb ⊢
  generalize V.radius = radius at hmay hb ⊢
  go_enter Tryz.func40, Tryz.ntmps40
  go_wp2_with fail
  refine hmay.mono ?_
  rintro e w1 ⟨rfl, hb1⟩
  go_wp2
  go_ret
  exact ⟨rfl, hb.trans (hb1.mono hb.size)⟩
set_option maxHeartbeats 8000000 in
theorem map_yes (a1 a2 a3 : Option Addr) (n1 c1 n2 c2 n3 c3 : Nat) (V : Ven) (ao : Option Addr) (len cap : Nat) (own : List Int) (w : World) (h : VenAt w a1 n1 c1 a2 n2 c2 a3 n3 c3 V) (hm : mayB V = true) (hp : Pow w) (ho : Own w ao len own) :
    Calls Tryz.prog 40 #[venV a1 n1 c1 V.gap V.radius a2 n2 c2 a3 n3 c3, .slice ao len cap] w fun e w' => e = .returned (.string ⟨(mapL V own).toArray⟩) ∧ Below w.heap.size w w' := by
  obtain rfl : n1 = V.seats.length := h.s.len
  obtain rfl : n2 = V.kills.length := h.k.len
  obtain rfl : n3 = V.poles.length := h.p.len
  have hb := below_alloc w (.cells #[.slice a1 V.seats.length c1, .int .i64 V.gap, .int .i64 V.radius, .slice a2 V.kills.length c2, .slice a3 V.poles.length c3] 33)
  have hmay := Ven.may_any a1 a2 a3 _ c1 _ c2 _ c3 V _ (h.next hb)
  rw [hm] at hmay
  have HV : Hid (MayV V) := may_v hm
  have hn2 := HV.out.n2
  have hn1 := HV.out.n1
  have HX := Box.fresh w 33 #[.slice a1 V.seats.length c1, .int .i64 V.gap, .int .i64 V.radius, .slice a2 V.kills.length c2, .slice a3 V.poles.length c3]
  obtain ⟨sb, so, rfl, _, _⟩ := sl_addr h.s (by omega)
  have HA : Hid (VenAt w (some ⟨sb, so, none⟩) V.seats.length c1 a2 V.kills.length c2 a3 V.poles.length c3 V) := h
  have HP : Hid (Pow w) := hp
  have HO : Hid (Own w ao len own) := ho
  have HSG : Hid (∀ (i : Nat) (o : Int) (W : World), VenAt W (some ⟨sb, so, none⟩) V.seats.length c1 a2 V.kills.length c2 a3 V.poles.length c3 V → i < V.seats.length → Calls Tryz.prog 68 #[venV (some ⟨sb, so, none⟩) V.seats.length c1 V.gap V.radius a2 V.kills.length c2 a3 V.poles.length c3, .int .i64 i, .int .i64 o] W fun e w' => e = .returned (.int .u8 ((signO V o i).toNat : Int)) ∧ Below W.heap.size W w') := fun i o W hW hi => sign_any _ _ _ _ _ _ _ _ _ V i o W hW HV.out hi
  clear hm h hp ho
  generalize V.gap = gap at hmay hb HX HSG ⊢
  generalize V.radius = radius at hmay hb HX HSG ⊢
  go_enter Tryz.func40, Tryz.ntmps40
  go_wp2_with fail
  refine hmay.mono ?_
  rintro e w1 ⟨rfl, hb1⟩
  have HB1 : Hid (Below w.heap.size w w1) := hb.trans (hb1.mono hb.size)
  have HX1 : Hid (Box w1 w.heap.size 33 #[.slice (some ⟨sb, so, none⟩) V.seats.length c1, .int .i64 gap, .int .i64 radius, .slice a2 V.kills.length c2, .slice a3 V.poles.length c3]) := HX.next hb1
  clear hb1 hb HX hmay
  have HS0 : Hid (PSt w1 (w1.alloc (.cells #[.pointer none, .slice none 0 0] 92)) (mapTo V own 0)) := ⟨below_alloc _ _, Bld.fresh w1⟩
  have HP1 : Hid (∀ W, Below w1.heap.size w1 W → Pow W) := fun W hW => HP.out.next (HB1.out.trans (hW.mono HB1.out.size))
  have HXW : Hid (∀ W, Below w1.heap.size w1 W → Box W w.heap.size 33 #[.slice (some ⟨sb, so, none⟩) V.seats.length c1, .int .i64 gap, .int .i64 radius, .slice a2 V.kills.length c2, .slice a3 V.poles.length c3]) := fun W hW => HX1.out.next hW
  have HAW : Hid (∀ W, Below w1.heap.size w1 W → VenAt W (some ⟨sb, so, none⟩) V.seats.length c1 a2 V.kills.length c2 a3 V.poles.length c3 V) := fun W hW => HA.out.next (HB1.out.trans (hW.mono HB1.out.size))
  have HOW : Hid (∀ W, Below w1.heap.size w1 W → Own W ao len own) := fun W hW => HO.out.next (HB1.out.trans (hW.mono HB1.out.size))
  obtain ⟨v0, v1, v2, v3, v4⟩ := HX1.out.five
  have vl := HX1.out.lt
  clear HX1 v1 v2 v3 v4
  go_wp2_with fail
  clear v0 vl
  go_loopw [14] (fun i wr => ∃ k : Nat, k ≤ V.seats.length ∧ i = .int .i64 k ∧ Hid (PSt w1 wr (mapTo V own k))) (fun i _ => V.seats.length - (intOf i).toNat)
  case atStart => exact ⟨0, Nat.zero_le _, rfl, HS0⟩
  case round =>
    clear HS0
    obtain ⟨k, hk, rfl, HS⟩ := hrel
    have hML := mapTo_len V own HV.out k hk
    by_cases hlt : k < V.seats.length
    · have hltz : (k : Int) < (V.seats.length : Int) := by omega
      have HC : Hid (Ven.Cells 4 Ven.seatC wr sb so V.seats) := (HAW.out _ HS.out.past).s.some_cells (by omega)
      obtain ⟨sl, c0, c1', c2', c3'⟩ := HC.out.seat k hlt
      have i0 := (HV.out.seat _ (List.getElem_mem hlt)).1
      have hit := itoa_len _ i0
      have HFL : Hid ((mapTo V own k ++ frontL V k).length ≤ 200000) := by
        have h2 := frontL_len V k (by rw [getElem!_pos V.seats k hlt]; exact i0)
        show _ ≤ _
        rw [List.length_append]; omega
      have HIT : Hid (∀ W, Below w1.heap.size w1 W → Calls Tryz.prog 67 #[.int .i64 V.seats[k].row] W fun e w' => e = .returned (.string ⟨(Lib.itoa V.seats[k].row).toArray⟩) ∧ Below W.heap.size W w') := fun W hW => itoa_any _ i0 W (HP1.out W hW)
      obtain ⟨v0, v1, v2, v3, v4⟩ := (HXW.out _ HS.out.past).five
      have vl := (HXW.out _ HS.out.past).lt
      have HSS : Hid (mapTo V own (k + 1) = mapTo V own k ++ frontL V k ++ [signO V (own.getD k 0) k]) := mapTo_succ V own k
      have h3 : k = 0 ∨ ∃ j, k = j + 1 := by cases k with
        | zero => exact .inl rfl
        | succ j => exact .inr ⟨j, rfl⟩
      rcases h3 with h0 | ⟨j, h0⟩
      · subst h0
        have HF : Hid (frontL V 0 = Lib.itoa V.seats[0].row ++ [32]) := frontL_zero V hlt
        generalize hr0 : Lib.itoa V.seats[0].row = I at HIT HF hit
        generalize V.seats[0].row = r at c0 HIT
        generalize V.seats[0].x = x at c1'
        generalize V.seats[0].y = y at c2'
        generalize V.seats[0].kind = kk at c3'
        clear hr0 i0
        simp only [Nat.zero_mul, Nat.add_zero] at c0 c1' c2' c3'
        have HS2 : Hid (PSt w1 (wr.alloc (.cells #[.int .i64 r, .int .i64 x, .int .i64 y, .int .i64 kk] 57)) (mapTo V own 0)) := HS.out.next (below_alloc _ _)
        have HQ : Hid (Box (wr.alloc (.cells #[.int .i64 r, .int .i64 x, .int .i64 y, .int .i64 kk] 57)) wr.heap.size 57 #[.int .i64 r, .int .i64 x, .int .i64 y, .int .i64 kk]) := Box.fresh _ _ _
        go_wp2_with fail
        clear c0 c1' c2' c3' sl v0 v1 v2 v3 v4 vl HS HC
        generalize wr.alloc (.cells #[.int .i64 r, .int .i64 x, .int .i64 y, .int .i64 kk] 57) = W2 at HS2 HQ ⊢
        generalize wr.heap.size = q at HQ ⊢
        go_quiet ((fail))
        have hq := HQ.out.next (drewN_below W2 nq)
        have HS3 : Hid (PSt w1 (W2.drewN nq) (mapTo V own 0)) := HS2.out.next (drewN_below W2 nq)
        have t0 := hq.cell 0 _ rfl
        have tl := hq.lt
        clear hq HS2 HQ
        generalize W2.drewN nq = W3 at HS3 t0 tl ⊢
        go_wp2_with fail
        refine (HIT.out W3 HS3.out.past).mono ?_
        rintro e w4 ⟨rfl, hb4⟩
        have HS4 : Hid (PSt w1 w4 (mapTo V own 0)) := HS3.out.next hb4
        clear hb4 HS3 t0 tl HIT
        go_wp2_with fail
        refine (ws_any w1.heap.size w1.heap.size (mapTo V own 0) (I ++ [32]) _ HS4.out.bld (by simp; omega)).mono ?_
        rintro e wf ⟨rfl, hB5, hb5⟩
        have HS5 : Hid (PSt w1 wf (mapTo V own 0 ++ (I ++ [32]))) := HS4.out.wrote hB5 hb5
        have HSF : Hid (PSt w1 wf (mapTo V own 0 ++ frontL V 0)) := by rw [HF.out]; exact HS5.out
        clear hB5 hb5 HS4 HS5 HF
        obtain ⟨v0, v1, v2, v3, v4⟩ := (HXW.out _ HSF.out.past).five
        have vl := (HXW.out _ HSF.out.past).lt
        go_wp2_with fail
        have HSd : Hid (PSt w1 { wf with drawn := wf.drawn + 1 } (mapTo V own 0 ++ frontL V 0)) := HSF.out.next ((Below.refl wf.heap.size wf).drew)
        have HOd := HOW.out _ HSd.out.past
        refine wp_region_still_tail 5 mixed (by kernel_rfl) ?_
        simp only [List.take_succ_cons, List.take_zero, List.drop_succ_cons, List.drop_zero]
        still_step
        still_step
        still_step
        still_step
        still_call (owner_any ao len cap own 0 (by omega) _ HOd)
        refine wpStill_nil ?_
        clear HOd v0 v1 v2 v3 v4 vl HSF
        generalize own.getD 0 0 = oo at HSS ⊢
        generalize ({ wf with drawn := wf.drawn + 1 } : World) = wd at HSd ⊢
        have hsg := HSG.out 0 oo wd (HAW.out _ HSd.out.past) hlt
        generalize signO V oo 0 = sg at hsg HSS
        go_wp2_with fail
        refine hsg.mono ?_
        rintro e w6 ⟨rfl, hb6⟩
        have HS6 : Hid (PSt w1 w6 (mapTo V own 0 ++ frontL V 0)) := HSd.out.next hb6
        clear hb6 HSd hsg
        go_wp2_with fail
        refine (wb_any w1.heap.size w1.heap.size (mapTo V own 0 ++ frontL V 0) sg _ HS6.out.bld (by have := HFL.out; omega)).mono ?_
        rintro e w7 ⟨rfl, hB7, hb7⟩
        have HS7 : Hid (PSt w1 w7 (mapTo V own 0 ++ frontL V 0 ++ [sg])) := HS6.out.wrote hB7 hb7
        clear hB7 hb7 HS6
        go_wp2_with fail
        go_roundw
        case rel => exact ⟨0 + 1, by omega, by go_num, by rw [HSS.out]; exact HS7⟩
        case measure => simp [intOf]; omega
      · subst h0
        have hjl : j < V.seats.length := by omega
        obtain ⟨_, p0, _, _, _⟩ := HC.out.seat j hjl
        have HFS : Hid (V.seats[j + 1].row = V.seats[j].row → frontL V (j + 1) = []) := frontL_same V j hlt
        have HFO : Hid (¬ V.seats[j + 1].row = V.seats[j].row → frontL V (j + 1) = [10] ++ (Lib.itoa V.seats[j + 1].row ++ [32])) := frontL_other V j hlt
        generalize hr0 : Lib.itoa V.seats[j + 1].row = I at HIT HFO hit
        generalize V.seats[j + 1].row = r at c0 HIT HFS HFO
        generalize V.seats[j].row = pr at p0 HFS HFO
        generalize V.seats[j + 1].x = x at c1'
        generalize V.seats[j + 1].y = y at c2'
        generalize V.seats[j + 1].kind = kk at c3'
        clear hr0 i0
        have HS2 : Hid (PSt w1 (wr.alloc (.cells #[.int .i64 r, .int .i64 x, .int .i64 y, .int .i64 kk] 57)) (mapTo V own (j + 1))) := HS.out.next (below_alloc _ _)
        have HQ : Hid (Box (wr.alloc (.cells #[.int .i64 r, .int .i64 x, .int .i64 y, .int .i64 kk] 57)) wr.heap.size 57 #[.int .i64 r, .int .i64 x, .int .i64 y, .int .i64 kk]) := Box.fresh _ _ _
        have HPR : Hid ((wr.alloc (.cells #[.int .i64 r, .int .i64 x, .int .i64 y, .int .i64 kk] 57)).cell? ⟨sb, so + j * 4, none⟩ = some (.int .i64 pr)) := by
          show _ = _
          rw [(below_alloc wr _).cell (p := ⟨sb, so + j * 4, none⟩) sl]; exact p0
        go_wp2_with fail
        have HX2 : Hid (Box (wr.alloc (.cells #[.int .i64 r, .int .i64 x, .int .i64 y, .int .i64 kk] 57)) w.heap.size 33 #[.slice (some ⟨sb, so, none⟩) V.seats.length c1, .int .i64 gap, .int .i64 radius, .slice a2 V.kills.length c2, .slice a3 V.poles.length c3]) := HXW.out _ HS2.out.past
        have HSL : Hid (sb < (wr.alloc (.cells #[.int .i64 r, .int .i64 x, .int .i64 y, .int .i64 kk] 57)).heap.size) := Nat.lt_of_lt_of_le sl (below_alloc wr _).size
        clear c0 c1' c2' c3' p0 v0 v1 v2 v3 v4 vl HS HC sl
        generalize wr.alloc (.cells #[.int .i64 r, .int .i64 x, .int .i64 y, .int .i64 kk] 57) = W2 at HS2 HQ HX2 HPR HSL ⊢
        generalize wr.heap.size = q at HQ ⊢
        obtain ⟨v0, v1, v2, v3, v4⟩ := HX2.out.five
        have vl := HX2.out.lt
        have t0 := HQ.out.cell 0 _ rfl
        have tl := HQ.out.lt
        have hpr := HPR.out
        have hsl := HSL.out
        have hj0 : (0 : Int) < ((j + 1 : Nat) : Int) := by omega
        by_cases hrr : r = pr
        · subst hrr
          go_quiet ((fail))
          have HSF : Hid (PSt w1 (W2.drewN nq) (mapTo V own (j + 1) ++ frontL V (j + 1))) := by
            rw [HFS.out rfl, List.append_nil]; exact HS2.out.next (drewN_below W2 nq)
          clear t0 tl hpr hsl HS2 HQ HX2 HPR HSL v0 v1 v2 v3 v4 vl HFS HFO HIT
          generalize W2.drewN nq = wf at HSF ⊢
          obtain ⟨v0, v1, v2, v3, v4⟩ := (HXW.out _ HSF.out.past).five
          have vl := (HXW.out _ HSF.out.past).lt
          go_wp2_with fail
          have HSd : Hid (PSt w1 { wf with drawn := wf.drawn + 1 } (mapTo V own (j + 1) ++ frontL V (j + 1))) := HSF.out.next ((Below.refl wf.heap.size wf).drew)
          have HOd := HOW.out _ HSd.out.past
          refine wp_region_still_tail 5 mixed (by kernel_rfl) ?_
          simp only [List.take_succ_cons, List.take_zero, List.drop_succ_cons, List.drop_zero]
          still_step
          still_step
          still_step
          still_step
          still_call (owner_any ao len cap own (j + 1) (by omega) _ HOd)
          refine wpStill_nil ?_
          clear HOd v0 v1 v2 v3 v4 vl HSF
          generalize own.getD (j + 1) 0 = oo at HSS ⊢
          generalize ({ wf with drawn := wf.drawn + 1 } : World) = wd at HSd ⊢
          have hsg := HSG.out (j + 1) oo wd (HAW.out _ HSd.out.past) hlt
          generalize signO V oo (j + 1) = sg at hsg HSS
          go_wp2_with fail
          refine hsg.mono ?_
          rintro e w6 ⟨rfl, hb6⟩
          have HS6 : Hid (PSt w1 w6 (mapTo V own (j + 1) ++ frontL V (j + 1))) := HSd.out.next hb6
          clear hb6 HSd hsg
          go_wp2_with fail
          refine (wb_any w1.heap.size w1.heap.size (mapTo V own (j + 1) ++ frontL V (j + 1)) sg _ HS6.out.bld (by have := HFL.out; omega)).mono ?_
          rintro e w7 ⟨rfl, hB7, hb7⟩
          have HS7 : Hid (PSt w1 w7 (mapTo V own (j + 1) ++ frontL V (j + 1) ++ [sg])) := HS6.out.wrote hB7 hb7
          clear hB7 hb7 HS6
          go_wp2_with fail
          go_roundw
          case rel => exact ⟨j + 1 + 1, by omega, by go_num, by rw [HSS.out]; exact HS7⟩
          case measure => simp [intOf]; omega
        · have hre : (r == pr) = false := by simpa using hrr
          go_quiet ((fail))
          have HS3 : Hid (PSt w1 (W2.drewN nq) (mapTo V own (j + 1))) := HS2.out.next (drewN_below W2 nq)
          have HQ3 : Hid (Box (W2.drewN nq) q 57 #[.int .i64 r, .int .i64 x, .int .i64 y, .int .i64 kk]) := HQ.out.next (drewN_below W2 nq)
          clear t0 tl hpr hsl HS2 HQ HX2 HPR HSL v0 v1 v2 v3 v4 vl
          generalize W2.drewN nq = W3 at HS3 HQ3 ⊢
          go_wp2_with fail
          refine (wb_kept w1.heap.size w1.heap.size (mapTo V own (j + 1)) 10 _ HS3.out.bld (by omega)).mono ?_
          rintro e w4 ⟨rfl, hB4, hb4, hk4⟩
          have HS4 : Hid (PSt w1 w4 (mapTo V own (j + 1) ++ [10])) := HS3.out.wrote hB4 hb4
          have HQ4 : Hid (Box w4 q 57 #[.int .i64 r, .int .i64 x, .int .i64 y, .int .i64 kk]) := kept_block hk4 HS3.out.bld HQ3.out (by decide) (by decide)
          have t0 := HQ4.out.cell 0 _ rfl
          have tl := HQ4.out.lt
          clear hB4 hb4 hk4 HS3 HQ3
          go_wp2_with fail
          refine (HIT.out w4 HS4.out.past).mono ?_
          rintro e w5 ⟨rfl, hb5⟩
          have HS5 : Hid (PSt w1 w5 (mapTo V own (j + 1) ++ [10])) := HS4.out.next hb5
          clear hb5 HS4 t0 tl HIT HQ4
          go_wp2_with fail
          refine (ws_any w1.heap.size w1.heap.size (mapTo V own (j + 1) ++ [10]) (I ++ [32]) _ HS5.out.bld (by simp; omega)).mono ?_
          rintro e wf ⟨rfl, hB6, hb6⟩
          have HS6' : Hid (PSt w1 wf (mapTo V own (j + 1) ++ [10] ++ (I ++ [32]))) := HS5.out.wrote hB6 hb6
          have HSF : Hid (PSt w1 wf (mapTo V own (j + 1) ++ frontL V (j + 1))) := by rw [HFO.out hrr, ← List.append_assoc]; exact HS6'.out
          clear hB6 hb6 HS5 HS6' HFO HFS
          obtain ⟨v0, v1, v2, v3, v4⟩ := (HXW.out _ HSF.out.past).five
          have vl := (HXW.out _ HSF.out.past).lt
          go_wp2_with fail
          have HSd : Hid (PSt w1 { wf with drawn := wf.drawn + 1 } (mapTo V own (j + 1) ++ frontL V (j + 1))) := HSF.out.next ((Below.refl wf.heap.size wf).drew)
          have HOd := HOW.out _ HSd.out.past
          refine wp_region_still_tail 5 mixed (by kernel_rfl) ?_
          simp only [List.take_succ_cons, List.take_zero, List.drop_succ_cons, List.drop_zero]
          still_step
          still_step
          still_step
          still_step
          still_call (owner_any ao len cap own (j + 1) (by omega) _ HOd)
          refine wpStill_nil ?_
          clear HOd v0 v1 v2 v3 v4 vl HSF
          generalize own.getD (j + 1) 0 = oo at HSS ⊢
          generalize ({ wf with drawn := wf.drawn + 1 } : World) = wd at HSd ⊢
          have hsg := HSG.out (j + 1) oo wd (HAW.out _ HSd.out.past) hlt
          generalize signO V oo (j + 1) = sg at hsg HSS
          go_wp2_with fail
          refine hsg.mono ?_
          rintro e w6 ⟨rfl, hb6⟩
          have HS6 : Hid (PSt w1 w6 (mapTo V own (j + 1) ++ frontL V (j + 1))) := HSd.out.next hb6
          clear hb6 HSd hsg
          go_wp2_with fail
          refine (wb_any w1.heap.size w1.heap.size (mapTo V own (j + 1) ++ frontL V (j + 1)) sg _ HS6.out.bld (by have := HFL.out; omega)).mono ?_
          rintro e w7 ⟨rfl, hB7, hb7⟩
          have HS7 : Hid (PSt w1 w7 (mapTo V own (j + 1) ++ frontL V (j + 1) ++ [sg])) := HS6.out.wrote hB7 hb7
          clear hB7 hb7 HS6
          go_wp2_with fail
          go_roundw
          case rel => exact ⟨j + 1 + 1, by omega, by go_num, by rw [HSS.out]; exact HS7⟩
          case measure => simp [intOf]; omega
    · have hltz : ¬ (k : Int) < (V.seats.length : Int) := by omega
      have hke : k = V.seats.length := by omega
      rw [hke] at HS hML
      have HR : Hid (mapTo V own V.seats.length ++ [10] = mapL V own) := rfl
      generalize mapTo V own V.seats.length = M at HS hML HR
      clear hke
      go_wp2_with fail
      refine (wb_any w1.heap.size w1.heap.size M 10 _ HS.out.bld (by omega)).mono ?_
      rintro e w4 ⟨rfl, hB4, hb4⟩
      have HS4 : Hid (PSt w1 w4 (M ++ [10])) := HS.out.wrote hB4 hb4
      clear hB4 hb4 HS
      go_wp2_with fail
      refine (str_any w1.heap.size w1.heap.size (M ++ [10]) _ HS4.out.bld).mono ?_
      rintro e w9 ⟨rfl, hb9⟩
      have HB9 : Hid (Below w.heap.size w w9) := HB1.out.trans ((HS4.out.past.trans hb9).mono HB1.out.size)
      clear hb9
      go_wp2
      go_ret
      exact ⟨congrArg (fun z : List UInt8 => Ending.returned (.string ⟨z.toArray⟩)) HR.out, HB9.out⟩
end Go.Proofs.YtpkjhlcolgoknaaGreatDoor.Prn
