/- parterreref2.Map by its contract. -/
import Derived.Test.YtpkjhlcolgoknaaDoorQRefG
import Derived.Test.YtpkjhlcolgoknaaDoorQMap
namespace Go.Proofs.YtpkjhlcolgoknaaDoor.Prn
set_option linter.unusedVariables false
set_option maxRecDepth 100000
open Go.RowKit Go.Shelf
open Go.Proofs.YtpkjhlcolgoknaaDoor.Ven (Seat Pole Ven VenAt venV Box mayB mixed SeatAt below_alloc)

attribute [local go_sem] bapp
set_option maxHeartbeats 1000000 in
theorem rmap_no (a1 a2 a3 : Option Addr) (n1 c1 n2 c2 n3 c3 : Nat) (V : Ven) (ao : Option Addr) (len cap : Nat) (w : World) (h : VenAt w a1 n1 c1 a2 n2 c2 a3 n3 c3 V) (hm : mayB V = false) :
    Calls Tryd.prog 13 #[venV a1 n1 c1 V.gap V.radius a2 n2 c2 a3 n3 c3, .slice ao len cap] w fun e w' => e = .returned (.string ⟨#[]⟩) ∧ Below w.heap.size w w' := by
  have hb := below_alloc w (.cells #[.slice a1 n1 c1, .int .i64 V.gap, .int .i64 V.radius, .slice a2 n2 c2, .slice a3 n3 c3] 26)
  have hmay := Ven.rmay_any a1 a2 a3 n1 c1 n2 c2 n3 c3 V _ (h.next hb)
  rw [hm] at hmay
  generalize V.gap = gap at hmay hb ⊢
  generalize V.radius = radius at hmay hb ⊢
  go_enter Tryd.func13, Tryd.ntmps13
  go_wp2_with fail
  refine hmay.mono ?_
  rintro e w1 ⟨rfl, hb1⟩
  go_wp2
  go_ret
  exact ⟨rfl, hb.trans (hb1.mono hb.size)⟩
set_option maxHeartbeats 8000000 in
theorem rmap_yes (a1 a2 a3 : Option Addr) (n1 c1 n2 c2 n3 c3 : Nat) (V : Ven) (ao : Option Addr) (len cap : Nat) (own : List Int) (w : World) (h : VenAt w a1 n1 c1 a2 n2 c2 a3 n3 c3 V) (hm : mayB V = true) (ho : Own w ao len own) :
    Calls Tryd.prog 13 #[venV a1 n1 c1 V.gap V.radius a2 n2 c2 a3 n3 c3, .slice ao len cap] w fun e w' => e = .returned (.string ⟨(mapL V own).toArray⟩) ∧ Below w.heap.size w w' := by
  obtain rfl : n1 = V.seats.length := h.s.len
  obtain rfl : n2 = V.kills.length := h.k.len
  obtain rfl : n3 = V.poles.length := h.p.len
  have hb := below_alloc w (.cells #[.slice a1 V.seats.length c1, .int .i64 V.gap, .int .i64 V.radius, .slice a2 V.kills.length c2, .slice a3 V.poles.length c3] 26)
  have hmay := Ven.rmay_any a1 a2 a3 _ c1 _ c2 _ c3 V _ (h.next hb)
  have HM : Hid (mayB V = true) := hm
  rw [hm] at hmay
  have HV : Hid (MayV V) := may_v hm
  have hn2 := HV.out.n2
  have hn1 := HV.out.n1
  have HX := Box.fresh w 26 #[.slice a1 V.seats.length c1, .int .i64 V.gap, .int .i64 V.radius, .slice a2 V.kills.length c2, .slice a3 V.poles.length c3]
  obtain ⟨sb, so, rfl, _, _⟩ := sl_addr h.s (by omega)
  have HA : Hid (VenAt w (some ⟨sb, so, none⟩) V.seats.length c1 a2 V.kills.length c2 a3 V.poles.length c3 V) := h
  have HO : Hid (Own w ao len own) := ho
  have HSG : Hid (∀ (i : Nat) (W : World), VenAt W (some ⟨sb, so, none⟩) V.seats.length c1 a2 V.kills.length c2 a3 V.poles.length c3 V → Own W ao len own → i < V.seats.length → Calls Tryd.prog 27 #[venV (some ⟨sb, so, none⟩) V.seats.length c1 V.gap V.radius a2 V.kills.length c2 a3 V.poles.length c3, .int .i64 i, .slice ao len cap] W fun e w' => e = .returned (.string ⟨[signL V own i].toArray⟩) ∧ Below W.heap.size W w') := fun i W hW hO hi => rsign_o _ _ _ _ _ _ _ _ _ V i _ ao len cap own W hW HM.out hi hO rfl
  clear hm h ho
  generalize V.gap = gap at hmay hb HX HSG ⊢
  generalize V.radius = radius at hmay hb HX HSG ⊢
  go_enter Tryd.func13, Tryd.ntmps13
  go_wp2_with fail
  refine hmay.mono ?_
  rintro e w1 ⟨rfl, hb1⟩
  have HB1 : Hid (Below w.heap.size w w1) := hb.trans (hb1.mono hb.size)
  have HX1 : Hid (Box w1 w.heap.size 26 #[.slice (some ⟨sb, so, none⟩) V.seats.length c1, .int .i64 gap, .int .i64 radius, .slice a2 V.kills.length c2, .slice a3 V.poles.length c3]) := HX.next hb1
  clear hb1 hb HX hmay
  have HXW : Hid (∀ W, Below w1.heap.size w1 W → Box W w.heap.size 26 #[.slice (some ⟨sb, so, none⟩) V.seats.length c1, .int .i64 gap, .int .i64 radius, .slice a2 V.kills.length c2, .slice a3 V.poles.length c3]) := fun W hW => HX1.out.next hW
  have HAW : Hid (∀ W, Below w1.heap.size w1 W → VenAt W (some ⟨sb, so, none⟩) V.seats.length c1 a2 V.kills.length c2 a3 V.poles.length c3 V) := fun W hW => HA.out.next (HB1.out.trans (hW.mono HB1.out.size))
  have HOW : Hid (∀ W, Below w1.heap.size w1 W → Own W ao len own) := fun W hW => HO.out.next (HB1.out.trans (hW.mono HB1.out.size))
  clear HX1
  go_wp2_with fail
  go_loopw [5, 6] (fun s i wr => ∃ k : Nat, k ≤ V.seats.length ∧ i = .int .i64 k ∧ s = .string ⟨(mapTo V own k).toArray⟩ ∧ Hid (Below w1.heap.size w1 wr)) (fun _ i _ => V.seats.length - (intOf i).toNat)
  case atStart => exact ⟨0, Nat.zero_le _, rfl, rfl, Below.refl _ _⟩
  case round =>
    obtain ⟨k, hk, rfl, rfl, HS⟩ := hrel
    have hML := mapTo_len V own HV.out k hk
    obtain ⟨v0, v1, v2, v3, v4⟩ := (HXW.out _ HS.out).five
    have vl := (HXW.out _ HS.out).lt
    by_cases hlt : k < V.seats.length
    · have hltz : (k : Int) < (V.seats.length : Int) := by omega
      have HC : Hid (∀ W, Below w1.heap.size w1 W → Ven.Cells 4 Ven.seatC W sb so V.seats) := fun W hW => (HAW.out _ hW).s.some_cells (by omega)
      have HCR : Hid (∀ W, Below w1.heap.size w1 W → W.cell? ⟨sb, so + k * 4, none⟩ = some (.int .i64 V.seats[k].row) ∧ sb < W.heap.size) := fun W hW => ⟨((HC.out _ hW).seat k hlt).c0, ((HC.out _ hW).seat k hlt).lt⟩
      have i0 := (HV.out.seat _ (List.getElem_mem hlt)).1
      have hit := itoa_len _ i0
      have hfl := frontL_len V k (by rw [getElem!_pos V.seats k hlt]; exact i0)
      have HIT : Hid (∀ W, Calls Tryd.prog 15 #[.int .i64 V.seats[k].row] W fun e w' => e = .returned (.string ⟨(Lib.itoa V.seats[k].row).toArray⟩) ∧ w' = W) := fun W => dec_any _ i0 W
      have HSS : Hid (mapTo V own (k + 1) = mapTo V own k ++ frontL V k ++ [signL V own k]) := mapTo_succ V own k
      have h3 : k = 0 ∨ ∃ j, k = j + 1 := by cases k with
        | zero => exact .inl rfl
        | succ j => exact .inr ⟨j, rfl⟩
      rcases h3 with h0 | ⟨j, h0⟩
      · subst h0
        have HF : Hid (frontL V 0 = Lib.itoa V.seats[0].row ++ [32]) := frontL_zero V hlt
        generalize hr0 : Lib.itoa V.seats[0].row = I at HIT HF hit
        generalize V.seats[0].row = r at HCR HIT
        clear hr0 i0
        go_wp2_with fail
        go_quiet ((fail))
        have HSF : Hid (Below w1.heap.size w1 (wr.drewN nq)) := HS.out.trans ((drewN_below wr nq).mono HS.out.size)
        clear v0 v1 v2 v3 v4 vl HS
        generalize wr.drewN nq = wz at HSF ⊢
        obtain ⟨v0, v1, v2, v3, v4⟩ := (HXW.out _ HSF.out).five
        have vl := (HXW.out _ HSF.out).lt
        obtain ⟨c0, sl⟩ := HCR.out _ HSF.out
        simp only [Nat.zero_mul, Nat.add_zero] at c0
        go_wp2_with (go_at_call 15; refine (HIT.out _).mono ?_; rintro e wf ⟨rfl, rfl⟩)
        have hsg := HSG.out 0 wf (HAW.out _ HSF.out) (HOW.out _ HSF.out) hlt
        generalize signL V own 0 = sg at hsg HSS
        refine hsg.mono ?_
        rintro e w6 ⟨rfl, hb6⟩
        have HS6 : Hid (Below w1.heap.size w1 w6) := HSF.out.trans (hb6.mono HSF.out.size)
        clear hb6 hsg HSF
        go_wp2_with fail
        go_roundw
        case rel => exact ⟨0 + 1, by omega, by go_num, by rw [HSS.out, HF.out]; try simp, HS6⟩
        case measure => simp [intOf]; omega
      · subst h0
        have hjl : j < V.seats.length := by omega
        have HCP : Hid (∀ W, Below w1.heap.size w1 W → W.cell? ⟨sb, so + j * 4, none⟩ = some (.int .i64 V.seats[j].row)) := fun W hW => ((HC.out _ hW).seat j hjl).c0
        have HFS : Hid (V.seats[j + 1].row = V.seats[j].row → frontL V (j + 1) = []) := frontL_same V j hlt
        have HFO : Hid (¬ V.seats[j + 1].row = V.seats[j].row → frontL V (j + 1) = [10] ++ (Lib.itoa V.seats[j + 1].row ++ [32])) := frontL_other V j hlt
        generalize hr0 : Lib.itoa V.seats[j + 1].row = I at HIT HFO hit
        generalize V.seats[j + 1].row = r at HCR HIT HFS HFO
        generalize V.seats[j].row = pr at HCP HFS HFO
        clear hr0 i0
        obtain ⟨c0, sl⟩ := HCR.out _ HS.out
        have p0 := HCP.out _ HS.out
        have hj0 : (0 : Int) < (j : Int) + 1 := by omega
        have hjz : ((j : Int) + 1 == 0) = false := by simp; omega
        have hjn : (j : Int) + 1 < (V.seats.length : Int) := by omega
        by_cases hrr : r = pr
        · subst hrr
          have HF : Hid (frontL V (j + 1) = []) := HFS.out rfl
          go_wp2_with fail
          go_quiet ((fail))
          have HSF : Hid (Below w1.heap.size w1 (wr.drewN nq)) := HS.out.trans ((drewN_below wr nq).mono HS.out.size)
          clear v0 v1 v2 v3 v4 vl HS c0 p0 sl
          generalize wr.drewN nq = wf at HSF ⊢
          obtain ⟨v0, v1, v2, v3, v4⟩ := (HXW.out _ HSF.out).five
          have vl := (HXW.out _ HSF.out).lt
          go_wp2_with fail
          have hsg := HSG.out (j + 1) wf (HAW.out _ HSF.out) (HOW.out _ HSF.out) hlt
          generalize signL V own (j + 1) = sg at hsg HSS
          refine hsg.mono ?_
          rintro e w6 ⟨rfl, hb6⟩
          have HS6 : Hid (Below w1.heap.size w1 w6) := HSF.out.trans (hb6.mono HSF.out.size)
          clear hb6 hsg HSF
          go_wp2_with fail
          go_roundw
          case rel => exact ⟨j + 1 + 1, by omega, by go_num, by rw [HSS.out, HF.out]; try simp, HS6⟩
          case measure => simp [intOf]; omega
        · have hre : (r == pr) = false := by simpa using hrr
          have HF : Hid (frontL V (j + 1) = [10] ++ (I ++ [32])) := HFO.out hrr
          go_wp2_with fail
          go_quiet ((fail))
          have HSF : Hid (Below w1.heap.size w1 (wr.drewN nq)) := HS.out.trans ((drewN_below wr nq).mono HS.out.size)
          clear v0 v1 v2 v3 v4 vl HS c0 p0 sl
          generalize wr.drewN nq = wz at HSF ⊢
          obtain ⟨v0, v1, v2, v3, v4⟩ := (HXW.out _ HSF.out).five
          have vl := (HXW.out _ HSF.out).lt
          obtain ⟨c0, sl⟩ := HCR.out _ HSF.out
          go_wp2_with (go_at_call 15; refine (HIT.out _).mono ?_; rintro e wf ⟨rfl, rfl⟩)
          have hsg := HSG.out (j + 1) wf (HAW.out _ HSF.out) (HOW.out _ HSF.out) hlt
          generalize signL V own (j + 1) = sg at hsg HSS
          refine hsg.mono ?_
          rintro e w6 ⟨rfl, hb6⟩
          have HS6 : Hid (Below w1.heap.size w1 w6) := HSF.out.trans (hb6.mono HSF.out.size)
          clear hb6 hsg HSF
          go_wp2_with fail
          go_roundw
          case rel => exact ⟨j + 1 + 1, by omega, by go_num, by rw [HSS.out, HF.out]; try simp, HS6⟩
          case measure => simp [intOf]; omega
    · have hltz : ¬ (k : Int) < (V.seats.length : Int) := by omega
      have hke : k = V.seats.length := by omega
      have HR : Hid (mapTo V own k ++ [10] = mapL V own) := by show _ = _; rw [hke]; rfl
      generalize mapTo V own k = M at hML HR ⊢
      have HB9 : Hid (Below w.heap.size w wr) := HB1.out.trans (HS.out.mono HB1.out.size)
      clear hke
      go_wp2_with fail
      go_ret
      exact ⟨congrArg (fun z : List UInt8 => Ending.returned (.string ⟨z.toArray⟩)) HR.out, HB9.out⟩
end Go.Proofs.YtpkjhlcolgoknaaDoor.Prn
