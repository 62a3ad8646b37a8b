/- print.Map by its contract: a line for each row, a sign for each seat. -/
import Derived.Test.YtpkjhlcolgoknaaDoorQSign
import Derived.Deep.QuietTactic
import Derived.BigQuiet
namespace Go.Proofs.YtpkjhlcolgoknaaDoor.Prn
set_option linter.unusedVariables false
set_option maxRecDepth 100000
open Go.RowKit Go.Shelf
open Go.Proofs.YtpkjhlcolgoknaaDoor.Ven (Seat Pole Ven VenAt venV Box mayB mixed SeatAt below_alloc)

attribute [local go_sem] bapp
theorem itoa_any (n : Int) (hn : I64 n) (w : World) (hp : Pow w) :
    Calls Tryd.prog 24 #[.int .i64 n] w fun e w' => e = .returned (.string ⟨(Lib.itoa n).toArray⟩) ∧ Below w.heap.size w w' := by
  refine (Tryd.strconv_Itoa n hn.1 hn.2 w hp).mono ?_
  rintro e w' ⟨rfl, k, os, rfl⟩
  exact ⟨rfl, ⟨rfl, rfl, rfl, by simp [Sort.grow, World.drewN], fun i hi => by simp [Sort.grow, World.drewN, Array.getElem?_append_left hi]⟩⟩
theorem drewN_below (w : World) (n : Nat) : Below w.heap.size w (w.drewN n) := ⟨rfl, rfl, rfl, Nat.le_refl _, fun _ _ => rfl⟩
theorem frontL_zero (V : Ven) (h : 0 < V.seats.length) : frontL V 0 = Lib.itoa V.seats[0].row ++ [32] := by
  unfold frontL; rw [if_pos rfl, getElem!_pos V.seats 0 h]
theorem frontL_same (V : Ven) (j : Nat) (h : j + 1 < V.seats.length) (hr : V.seats[j + 1].row = V.seats[j].row) : frontL V (j + 1) = [] := by
  unfold frontL; rw [if_neg (by omega), getElem!_pos V.seats (j + 1) h, Nat.add_sub_cancel, getElem!_pos V.seats j (by omega), if_pos hr]
theorem frontL_other (V : Ven) (j : Nat) (h : j + 1 < V.seats.length) (hr : ¬ V.seats[j + 1].row = V.seats[j].row) : frontL V (j + 1) = [10] ++ (Lib.itoa V.seats[j + 1].row ++ [32]) := by
  unfold frontL; rw [if_neg (by omega), getElem!_pos V.seats (j + 1) h, Nat.add_sub_cancel, getElem!_pos V.seats j (by omega), if_neg hr]; rfl
theorem mapTo_len (V : Ven) (own : List Int) (hV : MayV V) : ∀ n, n ≤ V.seats.length → (mapTo V own n).length ≤ n * 24
  | 0, _ => by simp [mapTo_zero]
  | n + 1, h => by
    have h1 := mapTo_len V own hV n (by omega)
    have h2 := frontL_len V n (by rw [getElem!_pos V.seats n (by omega)]; exact (hV.seat _ (List.getElem_mem _)).1)
    rw [mapTo_succ, List.length_append, List.length_append, List.length_singleton]; omega
set_option maxHeartbeats 1000000 in
theorem map_no (a1 a2 a3 : Option Addr) (n1 c1 n2 c2 n3 c3 : Nat) (V : Ven) (ao : Option Addr) (len cap : Nat) (w : World) (h : VenAt w a1 n1 c1 a2 n2 c2 a3 n3 c3 V) (hm : mayB V = false) :
    Calls Tryd.prog 12 #[venV a1 n1 c1 V.gap V.radius a2 n2 c2 a3 n3 c3, .slice ao len cap] w fun e w' => e = .returned (.string ⟨#[]⟩) ∧ Below w.heap.size w w' := by
  have hb := below_alloc w (.cells #[.slice a1 n1 c1, .int .i64 V.gap, .int .i64 V.radius, .slice a2 n2 c2, .slice a3 n3 c3] 26)
  have hmay := Ven.may_any a1 a2 a3 n1 c1 n2 c2 n3 c3 V _ (h.next hb)
  rw [hm] at hmay
  generalize V.gap = gap at hmay hb ⊢
  generalize V.radius = radius at hmay hb ⊢
  go_enter Tryd.func12, Tryd.ntmps12
  go_wp2_with fail
  refine hmay.mono ?_
  rintro e w1 ⟨rfl, hb1⟩
  go_wp2
  go_ret
  exact ⟨rfl, hb.trans (hb1.mono hb.size)⟩
set_option maxHeartbeats 8000000 in
theorem map_yes (a1 a2 a3 : Option Addr) (n1 c1 n2 c2 n3 c3 : Nat) (V : Ven) (ao : Option Addr) (len cap : Nat) (own : List Int) (w : World) (h : VenAt w a1 n1 c1 a2 n2 c2 a3 n3 c3 V) (hm : mayB V = true) (hp : Pow w) (ho : Own w ao len own) :
    Calls Tryd.prog 12 #[venV a1 n1 c1 V.gap V.radius a2 n2 c2 a3 n3 c3, .slice ao len cap] w fun e w' => e = .returned (.string ⟨(mapL V own).toArray⟩) ∧ Below w.heap.size w w' := by
  obtain rfl : n1 = V.seats.length := h.s.len
  obtain rfl : n2 = V.kills.length := h.k.len
  obtain rfl : n3 = V.poles.length := h.p.len
  have hb := below_alloc w (.cells #[.slice a1 V.seats.length c1, .int .i64 V.gap, .int .i64 V.radius, .slice a2 V.kills.length c2, .slice a3 V.poles.length c3] 26)
  have hmay := Ven.may_any a1 a2 a3 _ c1 _ c2 _ c3 V _ (h.next hb)
  rw [hm] at hmay
  have HV : Hid (MayV V) := may_v hm
  have hn2 := HV.out.n2
  have hn1 := HV.out.n1
  have HX := Box.fresh w 26 #[.slice a1 V.seats.length c1, .int .i64 V.gap, .int .i64 V.radius, .slice a2 V.kills.length c2, .slice a3 V.poles.length c3]
  obtain ⟨sb, so, rfl, _, _⟩ := sl_addr h.s (by omega)
  have HA : Hid (VenAt w (some ⟨sb, so, none⟩) V.seats.length c1 a2 V.kills.length c2 a3 V.poles.length c3 V) := h
  have HP : Hid (Pow w) := hp
  have HO : Hid (Own w ao len own) := ho
  have HSG : Hid (∀ (i : Nat) (o : Int) (W : World), VenAt W (some ⟨sb, so, none⟩) V.seats.length c1 a2 V.kills.length c2 a3 V.poles.length c3 V → i < V.seats.length → Calls Tryd.prog 25 #[venV (some ⟨sb, so, none⟩) V.seats.length c1 V.gap V.radius a2 V.kills.length c2 a3 V.poles.length c3, .int .i64 i, .int .i64 o] W fun e w' => e = .returned (.int .u8 ((signO V o i).toNat : Int)) ∧ Below W.heap.size W w') := fun i o W hW hi => sign_any _ _ _ _ _ _ _ _ _ V i o W hW HV.out hi
  clear hm h hp ho
  generalize V.gap = gap at hmay hb HX HSG ⊢
  generalize V.radius = radius at hmay hb HX HSG ⊢
  go_enter Tryd.func12, Tryd.ntmps12
  go_wp2_with fail
  refine hmay.mono ?_
  rintro e w1 ⟨rfl, hb1⟩
  have HB1 : Hid (Below w.heap.size w w1) := hb.trans (hb1.mono hb.size)
  have HX1 : Hid (Box w1 w.heap.size 26 #[.slice (some ⟨sb, so, none⟩) V.seats.length c1, .int .i64 gap, .int .i64 radius, .slice a2 V.kills.length c2, .slice a3 V.poles.length c3]) := HX.next hb1
  clear hb1 hb HX hmay
  have HS0 : Hid (PSt w1 (w1.alloc (.cells #[.pointer none, .slice none 0 0] 46)) (mapTo V own 0)) := ⟨below_alloc _ _, Bld.fresh w1⟩
  have HP1 : Hid (∀ W, Below w1.heap.size w1 W → Pow W) := fun W hW => HP.out.next (HB1.out.trans (hW.mono HB1.out.size))
  have HXW : Hid (∀ W, Below w1.heap.size w1 W → Box W w.heap.size 26 #[.slice (some ⟨sb, so, none⟩) V.seats.length c1, .int .i64 gap, .int .i64 radius, .slice a2 V.kills.length c2, .slice a3 V.poles.length c3]) := fun W hW => HX1.out.next hW
  have HAW : Hid (∀ W, Below w1.heap.size w1 W → VenAt W (some ⟨sb, so, none⟩) V.seats.length c1 a2 V.kills.length c2 a3 V.poles.length c3 V) := fun W hW => HA.out.next (HB1.out.trans (hW.mono HB1.out.size))
  have HOW : Hid (∀ W, Below w1.heap.size w1 W → Own W ao len own) := fun W hW => HO.out.next (HB1.out.trans (hW.mono HB1.out.size))
  obtain ⟨v0, v1, v2, v3, v4⟩ := HX1.out.five
  have vl := HX1.out.lt
  clear HX1 v1 v2 v3 v4
  go_wp2_with fail
  clear v0 vl
  go_loopw [14] (fun i wr => ∃ k : Nat, k ≤ V.seats.length ∧ i = .int .i64 k ∧ Hid (PSt w1 wr (mapTo V own k))) (fun i _ => V.seats.length - (intOf i).toNat)
  case atStart => exact ⟨0, Nat.zero_le _, rfl, HS0⟩
  case round =>
    clear HS0
    obtain ⟨k, hk, rfl, HS⟩ := hrel
    have hML := mapTo_len V own HV.out k hk
    by_cases hlt : k < V.seats.length
    · have hltz : (k : Int) < (V.seats.length : Int) := by omega
      have HC : Hid (Ven.Cells 4 Ven.seatC wr sb so V.seats) := (HAW.out _ HS.out.past).s.some_cells (by omega)
      obtain ⟨sl, c0, c1', c2', c3'⟩ := HC.out.seat k hlt
      have i0 := (HV.out.seat _ (List.getElem_mem hlt)).1
      have hit := itoa_len _ i0
      have HFL : Hid ((mapTo V own k ++ frontL V k).length ≤ 200000) := by
        have h2 := frontL_len V k (by rw [getElem!_pos V.seats k hlt]; exact i0)
        show _ ≤ _
        rw [List.length_append]; omega
      have HIT : Hid (∀ W, Below w1.heap.size w1 W → Calls Tryd.prog 24 #[.int .i64 V.seats[k].row] W fun e w' => e = .returned (.string ⟨(Lib.itoa V.seats[k].row).toArray⟩) ∧ Below W.heap.size W w') := fun W hW => itoa_any _ i0 W (HP1.out W hW)
      obtain ⟨v0, v1, v2, v3, v4⟩ := (HXW.out _ HS.out.past).five
      have vl := (HXW.out _ HS.out.past).lt
      have HSS : Hid (mapTo V own (k + 1) = mapTo V own k ++ frontL V k ++ [signO V (own.getD k 0) k]) := mapTo_succ V own k
      have h3 : k = 0 ∨ ∃ j, k = j + 1 := by cases k with
        | zero => exact .inl rfl
        | succ j => exact .inr ⟨j, rfl⟩
      rcases h3 with h0 | ⟨j, h0⟩
      · subst h0
        have HF : Hid (frontL V 0 = Lib.itoa V.seats[0].row ++ [32]) := frontL_zero V hlt
        generalize hr0 : Lib.itoa V.seats[0].row = I at HIT HF hit
        generalize V.seats[0].row = r at c0 HIT
        generalize V.seats[0].x = x at c1'
        generalize V.seats[0].y = y at c2'
        generalize V.seats[0].kind = kk at c3'
        clear hr0 i0
        simp only [Nat.zero_mul, Nat.add_zero] at c0 c1' c2' c3'
        have HS2 : Hid (PSt w1 (wr.alloc (.cells #[.int .i64 r, .int .i64 x, .int .i64 y, .int .i64 kk] 28)) (mapTo V own 0)) := HS.out.next (below_alloc _ _)
        have HQ : Hid (Box (wr.alloc (.cells #[.int .i64 r, .int .i64 x, .int .i64 y, .int .i64 kk] 28)) wr.heap.size 28 #[.int .i64 r, .int .i64 x, .int .i64 y, .int .i64 kk]) := Box.fresh _ _ _
        go_wp2_with fail
        clear c0 c1' c2' c3' sl v0 v1 v2 v3 v4 vl HS HC
        generalize wr.alloc (.cells #[.int .i64 r, .int .i64 x, .int .i64 y, .int .i64 kk] 28) = W2 at HS2 HQ ⊢
        generalize wr.heap.size = q at HQ ⊢
        go_quiet ((fail))
        have hq := HQ.out.next (drewN_below W2 nq)
        have HS3 : Hid (PSt w1 (W2.drewN nq) (mapTo V own 0)) := HS2.out.next (drewN_below W2 nq)
        have t0 := hq.cell 0 _ rfl
        have tl := hq.lt
        clear hq HS2 HQ
        generalize W2.drewN nq = W3 at HS3 t0 tl ⊢
        go_wp2_with fail
        refine (HIT.out W3 HS3.out.past).mono ?_
        rintro e w4 ⟨rfl, hb4⟩
        have HS4 : Hid (PSt w1 w4 (mapTo V own 0)) := HS3.out.next hb4
        clear hb4 HS3 t0 tl HIT
        go_wp2_with fail
        refine (ws_any w1.heap.size w1.heap.size (mapTo V own 0) (I ++ [32]) _ HS4.out.bld (by simp; omega)).mono ?_
        rintro e wf ⟨rfl, hB5, hb5⟩
        have HS5 : Hid (PSt w1 wf (mapTo V own 0 ++ (I ++ [32]))) := HS4.out.wrote hB5 hb5
        have HSF : Hid (PSt w1 wf (mapTo V own 0 ++ frontL V 0)) := by rw [HF.out]; exact HS5.out
        clear hB5 hb5 HS4 HS5 HF
        obtain ⟨v0, v1, v2, v3, v4⟩ := (HXW.out _ HSF.out.past).five
        have vl := (HXW.out _ HSF.out.past).lt
        go_wp2_with fail
        have HSd : Hid (PSt w1 { wf with drawn := wf.drawn + 1 } (mapTo V own 0 ++ frontL V 0)) := HSF.out.next ((Below.refl wf.heap.size wf).drew)
        have HOd := HOW.out _ HSd.out.past
        refine wp_region_still_tail 5 mixed (by kernel_rfl) ?_
        simp only [List.take_succ_cons, List.take_zero, List.drop_succ_cons, List.drop_zero]
        still_step
        still_step
        still_step
        still_step
        still_call (owner_any ao len cap own 0 (by omega) _ HOd)
        refine wpStill_nil ?_
        clear HOd v0 v1 v2 v3 v4 vl HSF
        generalize own.getD 0 0 = oo at HSS ⊢
        generalize ({ wf with drawn := wf.drawn + 1 } : World) = wd at HSd ⊢
        have hsg := HSG.out 0 oo wd (HAW.out _ HSd.out.past) hlt
        generalize signO V oo 0 = sg at hsg HSS
        go_wp2_with fail
        refine hsg.mono ?_
        rintro e w6 ⟨rfl, hb6⟩
        have HS6 : Hid (PSt w1 w6 (mapTo V own 0 ++ frontL V 0)) := HSd.out.next hb6
        clear hb6 HSd hsg
        go_wp2_with fail
        refine (wb_any w1.heap.size w1.heap.size (mapTo V own 0 ++ frontL V 0) sg _ HS6.out.bld (by have := HFL.out; omega)).mono ?_
        rintro e w7 ⟨rfl, hB7, hb7⟩
        have HS7 : Hid (PSt w1 w7 (mapTo V own 0 ++ frontL V 0 ++ [sg])) := HS6.out.wrote hB7 hb7
        clear hB7 hb7 HS6
        go_wp2_with fail
        go_roundw
        case rel => exact ⟨0 + 1, by omega, by go_num, by rw [HSS.out]; exact HS7⟩
        case measure => simp [intOf]; omega
      · subst h0
        have hjl : j < V.seats.length := by omega
        obtain ⟨_, p0, _, _, _⟩ := HC.out.seat j hjl
        have HFS : Hid (V.seats[j + 1].row = V.seats[j].row → frontL V (j + 1) = []) := frontL_same V j hlt
        have HFO : Hid (¬ V.seats[j + 1].row = V.seats[j].row → frontL V (j + 1) = [10] ++ (Lib.itoa V.seats[j + 1].row ++ [32])) := frontL_other V j hlt
        generalize hr0 : Lib.itoa V.seats[j + 1].row = I at HIT HFO hit
        generalize V.seats[j + 1].row = r at c0 HIT HFS HFO
        generalize V.seats[j].row = pr at p0 HFS HFO
        generalize V.seats[j + 1].x = x at c1'
        generalize V.seats[j + 1].y = y at c2'
        generalize V.seats[j + 1].kind = kk at c3'
        clear hr0 i0
        have HS2 : Hid (PSt w1 (wr.alloc (.cells #[.int .i64 r, .int .i64 x, .int .i64 y, .int .i64 kk] 28)) (mapTo V own (j + 1))) := HS.out.next (below_alloc _ _)
        have HQ : Hid (Box (wr.alloc (.cells #[.int .i64 r, .int .i64 x, .int .i64 y, .int .i64 kk] 28)) wr.heap.size 28 #[.int .i64 r, .int .i64 x, .int .i64 y, .int .i64 kk]) := Box.fresh _ _ _
        have HPR : Hid ((wr.alloc (.cells #[.int .i64 r, .int .i64 x, .int .i64 y, .int .i64 kk] 28)).cell? ⟨sb, so + j * 4, none⟩ = some (.int .i64 pr)) := by
          show _ = _
          rw [(below_alloc wr _).cell (p := ⟨sb, so + j * 4, none⟩) sl]; exact p0
        go_wp2_with fail
        have HX2 : Hid (Box (wr.alloc (.cells #[.int .i64 r, .int .i64 x, .int .i64 y, .int .i64 kk] 28)) w.heap.size 26 #[.slice (some ⟨sb, so, none⟩) V.seats.length c1, .int .i64 gap, .int .i64 radius, .slice a2 V.kills.length c2, .slice a3 V.poles.length c3]) := HXW.out _ HS2.out.past
        have HSL : Hid (sb < (wr.alloc (.cells #[.int .i64 r, .int .i64 x, .int .i64 y, .int .i64 kk] 28)).heap.size) := Nat.lt_of_lt_of_le sl (below_alloc wr _).size
        clear c0 c1' c2' c3' p0 v0 v1 v2 v3 v4 vl HS HC sl
        generalize wr.alloc (.cells #[.int .i64 r, .int .i64 x, .int .i64 y, .int .i64 kk] 28) = W2 at HS2 HQ HX2 HPR HSL ⊢
        generalize wr.heap.size = q at HQ ⊢
        obtain ⟨v0, v1, v2, v3, v4⟩ := HX2.out.five
        have vl := HX2.out.lt
        have t0 := HQ.out.cell 0 _ rfl
        have tl := HQ.out.lt
        have hpr := HPR.out
        have hsl := HSL.out
        have hj0 : (0 : Int) < ((j + 1 : Nat) : Int) := by omega
        by_cases hrr : r = pr
        · subst hrr
          go_quiet ((fail))
          have HSF : Hid (PSt w1 (W2.drewN nq) (mapTo V own (j + 1) ++ frontL V (j + 1))) := by
            rw [HFS.out rfl, List.append_nil]; exact HS2.out.next (drewN_below W2 nq)
          clear t0 tl hpr hsl HS2 HQ HX2 HPR HSL v0 v1 v2 v3 v4 vl HFS HFO HIT
          generalize W2.drewN nq = wf at HSF ⊢
          obtain ⟨v0, v1, v2, v3, v4⟩ := (HXW.out _ HSF.out.past).five
          have vl := (HXW.out _ HSF.out.past).lt
          go_wp2_with fail
          have HSd : Hid (PSt w1 { wf with drawn := wf.drawn + 1 } (mapTo V own (j + 1) ++ frontL V (j + 1))) := HSF.out.next ((Below.refl wf.heap.size wf).drew)
          have HOd := HOW.out _ HSd.out.past
          refine wp_region_still_tail 5 mixed (by kernel_rfl) ?_
          simp only [List.take_succ_cons, List.take_zero, List.drop_succ_cons, List.drop_zero]
          still_step
          still_step
          still_step
          still_step
          still_call (owner_any ao len cap own (j + 1) (by omega) _ HOd)
          refine wpStill_nil ?_
          clear HOd v0 v1 v2 v3 v4 vl HSF
          generalize own.getD (j + 1) 0 = oo at HSS ⊢
          generalize ({ wf with drawn := wf.drawn + 1 } : World) = wd at HSd ⊢
          have hsg := HSG.out (j + 1) oo wd (HAW.out _ HSd.out.past) hlt
          generalize signO V oo (j + 1) = sg at hsg HSS
          go_wp2_with fail
          refine hsg.mono ?_
          rintro e w6 ⟨rfl, hb6⟩
          have HS6 : Hid (PSt w1 w6 (mapTo V own (j + 1) ++ frontL V (j + 1))) := HSd.out.next hb6
          clear hb6 HSd hsg
          go_wp2_with fail
          refine (wb_any w1.heap.size w1.heap.size (mapTo V own (j + 1) ++ frontL V (j + 1)) sg _ HS6.out.bld (by have := HFL.out; omega)).mono ?_
          rintro e w7 ⟨rfl, hB7, hb7⟩
          have HS7 : Hid (PSt w1 w7 (mapTo V own (j + 1) ++ frontL V (j + 1) ++ [sg])) := HS6.out.wrote hB7 hb7
          clear hB7 hb7 HS6
          go_wp2_with fail
          go_roundw
          case rel => exact ⟨j + 1 + 1, by omega, by go_num, by rw [HSS.out]; exact HS7⟩
          case measure => simp [intOf]; omega
        · have hre : (r == pr) = false := by simpa using hrr
          go_quiet ((fail))
          have HS3 : Hid (PSt w1 (W2.drewN nq) (mapTo V own (j + 1))) := HS2.out.next (drewN_below W2 nq)
          have HQ3 : Hid (Box (W2.drewN nq) q 28 #[.int .i64 r, .int .i64 x, .int .i64 y, .int .i64 kk]) := HQ.out.next (drewN_below W2 nq)
          clear t0 tl hpr hsl HS2 HQ HX2 HPR HSL v0 v1 v2 v3 v4 vl
          generalize W2.drewN nq = W3 at HS3 HQ3 ⊢
          go_wp2_with fail
          refine (wb_kept w1.heap.size w1.heap.size (mapTo V own (j + 1)) 10 _ HS3.out.bld (by omega)).mono ?_
          rintro e w4 ⟨rfl, hB4, hb4, hk4⟩
          have HS4 : Hid (PSt w1 w4 (mapTo V own (j + 1) ++ [10])) := HS3.out.wrote hB4 hb4
          have HQ4 : Hid (Box w4 q 28 #[.int .i64 r, .int .i64 x, .int .i64 y, .int .i64 kk]) := kept_block hk4 HS3.out.bld HQ3.out (by decide) (by decide)
          have t0 := HQ4.out.cell 0 _ rfl
          have tl := HQ4.out.lt
          clear hB4 hb4 hk4 HS3 HQ3
          go_wp2_with fail
          refine (HIT.out w4 HS4.out.past).mono ?_
          rintro e w5 ⟨rfl, hb5⟩
          have HS5 : Hid (PSt w1 w5 (mapTo V own (j + 1) ++ [10])) := HS4.out.next hb5
          clear hb5 HS4 t0 tl HIT HQ4
          go_wp2_with fail
          refine (ws_any w1.heap.size w1.heap.size (mapTo V own (j + 1) ++ [10]) (I ++ [32]) _ HS5.out.bld (by simp; omega)).mono ?_
          rintro e wf ⟨rfl, hB6, hb6⟩
          have HS6' : Hid (PSt w1 wf (mapTo V own (j + 1) ++ [10] ++ (I ++ [32]))) := HS5.out.wrote hB6 hb6
          have HSF : Hid (PSt w1 wf (mapTo V own (j + 1) ++ frontL V (j + 1))) := by rw [HFO.out hrr, ← List.append_assoc]; exact HS6'.out
          clear hB6 hb6 HS5 HS6' HFO HFS
          obtain ⟨v0, v1, v2, v3, v4⟩ := (HXW.out _ HSF.out.past).five
          have vl := (HXW.out _ HSF.out.past).lt
          go_wp2_with fail
          have HSd : Hid (PSt w1 { wf with drawn := wf.drawn + 1 } (mapTo V own (j + 1) ++ frontL V (j + 1))) := HSF.out.next ((Below.refl wf.heap.size wf).drew)
          have HOd := HOW.out _ HSd.out.past
          refine wp_region_still_tail 5 mixed (by kernel_rfl) ?_
          simp only [List.take_succ_cons, List.take_zero, List.drop_succ_cons, List.drop_zero]
          still_step
          still_step
          still_step
          still_step
          still_call (owner_any ao len cap own (j + 1) (by omega) _ HOd)
          refine wpStill_nil ?_
          clear HOd v0 v1 v2 v3 v4 vl HSF
          generalize own.getD (j + 1) 0 = oo at HSS ⊢
          generalize ({ wf with drawn := wf.drawn + 1 } : World) = wd at HSd ⊢
          have hsg := HSG.out (j + 1) oo wd (HAW.out _ HSd.out.past) hlt
          generalize signO V oo (j + 1) = sg at hsg HSS
          go_wp2_with fail
          refine hsg.mono ?_
          rintro e w6 ⟨rfl, hb6⟩
          have HS6 : Hid (PSt w1 w6 (mapTo V own (j + 1) ++ frontL V (j + 1))) := HSd.out.next hb6
          clear hb6 HSd hsg
          go_wp2_with fail
          refine (wb_any w1.heap.size w1.heap.size (mapTo V own (j + 1) ++ frontL V (j + 1)) sg _ HS6.out.bld (by have := HFL.out; omega)).mono ?_
          rintro e w7 ⟨rfl, hB7, hb7⟩
          have HS7 : Hid (PSt w1 w7 (mapTo V own (j + 1) ++ frontL V (j + 1) ++ [sg])) := HS6.out.wrote hB7 hb7
          clear hB7 hb7 HS6
          go_wp2_with fail
          go_roundw
          case rel => exact ⟨j + 1 + 1, by omega, by go_num, by rw [HSS.out]; exact HS7⟩
          case measure => simp [intOf]; omega
    · have hltz : ¬ (k : Int) < (V.seats.length : Int) := by omega
      have hke : k = V.seats.length := by omega
      rw [hke] at HS hML
      have HR : Hid (mapTo V own V.seats.length ++ [10] = mapL V own) := rfl
      generalize mapTo V own V.seats.length = M at HS hML HR
      clear hke
      go_wp2_with fail
      refine (wb_any w1.heap.size w1.heap.size M 10 _ HS.out.bld (by omega)).mono ?_
      rintro e w4 ⟨rfl, hB4, hb4⟩
      have HS4 : Hid (PSt w1 w4 (M ++ [10])) := HS.out.wrote hB4 hb4
      clear hB4 hb4 HS
      go_wp2_with fail
      refine (str_any w1.heap.size w1.heap.size (M ++ [10]) _ HS4.out.bld).mono ?_
      rintro e w9 ⟨rfl, hb9⟩
      have HB9 : Hid (Below w.heap.size w w9) := HB1.out.trans ((HS4.out.past.trans hb9).mono HB1.out.size)
      clear hb9
      go_wp2
      go_ret
      exact ⟨congrArg (fun z : List UInt8 => Ending.returned (.string ⟨z.toArray⟩)) HR.out, HB9.out⟩
end Go.Proofs.YtpkjhlcolgoknaaDoor.Prn
