/- parterreref6.By, Usable by contracts. -/
import Derived.Test.YtbmmjbklfheghaaKRef
namespace Go.Proofs.Ytbmmjbklfheghaa.Kll
set_option linter.unusedVariables false
set_option maxRecDepth 100000
open Go.RowKit Go.Shelf
open Go.Proofs.Ytbmmjbklfheghaa.Ven (Seat Pole Ven VenAt venV Box mayB mixed Sl below_alloc ret_bool ret_int rmay_any intC RowF row_slice)
open Go.Proofs.Ytbmmjbklfheghaa.Com (hid' Ints row_base MarksAt marks_of_row boolC)

set_option maxHeartbeats 4000000 in
theorem rby_any (a1 a2 a3 : Option Addr) (n1 c1 n2 c2 n3 c3 : Nat) (V : Ven) (k : Int) (w : World) (h : VenAt w a1 n1 c1 a2 n2 c2 a3 n3 c3 V) :
    Calls Try.prog 15 #[venV a1 n1 c1 V.gap V.radius a2 n2 c2 a3 n3 c3, .int .i64 k] w fun e w' => ∃ v, e = .returned v ∧ Ints w.heap.size w' v (byB V k) ∧ Below w.heap.size w w' := by
  have hb0 := below_alloc w (.cells #[.slice a1 n1 c1, .int .i64 V.gap, .int .i64 V.radius, .slice a2 n2 c2, .slice a3 n3 c3] 26)
  have hx := Box.fresh w 26 #[.slice a1 n1 c1, .int .i64 V.gap, .int .i64 V.radius, .slice a2 n2 c2, .slice a3 n3 c3]
  have hn := h.s.len
  subst hn
  have hmay := rmay_any a1 a2 a3 V.seats.length c1 n2 c2 n3 c3 V _ (h.next hb0)
  have hseat := rseat_any a1 a2 a3 V.seats.length c1 n2 c2 n3 c3 V.gap V.radius k
  have HKI : Hid (mayB V = true → decide (0 ≤ k ∧ k < (V.seats.length : Int)) = true → ∀ W, Below w.heap.size w W → Calls Try.prog 19 #[venV a1 V.seats.length c1 V.gap V.radius a2 n2 c2 a3 n3 c3, .int .i64 k] W fun e w' => ∃ v, e = .returned v ∧ Ints W.heap.size w' v (byB V k) ∧ Below W.heap.size W w') := fun hm hd W hW => by
    have hd := of_decide_eq_true hd
    obtain ⟨j, rfl, hj⟩ : ∃ j : Nat, k = (j : Int) ∧ j < V.seats.length := ⟨k.toNat, by omega, by omega⟩
    rw [byB_nat hm hj]
    exact rkilled_any a1 a2 a3 V.seats.length c1 n2 c2 n3 c3 V j hj (may_wellK hm) W (h.next hW)
  have HN1 : Hid (mayB V = false → byB V k = []) := fun hm => by unfold byB; rw [if_neg (fun hc => by rw [hm] at hc; cases hc.1)]
  have HN2 : Hid (decide (0 ≤ k ∧ k < (V.seats.length : Int)) = false → byB V k = []) := fun hd => byB_off (of_decide_eq_false hd)
  obtain ⟨v0, v1, v2, v3, v4⟩ := hx.five
  clear h
  generalize byB V k = ans at *
  generalize decide (0 ≤ k ∧ k < (V.seats.length : Int)) = q at *
  generalize mayB V = m at *
  generalize V.radius = rad at *
  generalize V.gap = gap at *
  generalize V.seats.length = n at *
  go_enter Try.func15, Try.ntmps15
  go_wp2_with fail
  refine hmay.mono ?_
  rintro e w1 ⟨rfl, hb1⟩
  have hB1 := hb0.trans (hb1.mono hb0.size)
  have hx1 := hx.next hb1
  clear hx v0 v1 v2 v3 v4 hb0 hb1 hmay
  cases m with
  | false =>
    obtain rfl := HN1.out (by trivial)
    have HB := hid' hB1
    clear hB1 hx1
    go_wp2
    go_ret
    exact ⟨_, rfl, Com.Ints.nil _ _, HB.out⟩
  | true =>
    obtain ⟨v0, v1, v2, v3, v4⟩ := hx1.five
    go_wp2_with fail
    refine (hseat _).mono ?_
    rintro e w2 ⟨rfl, hb2⟩
    have hB2 := hB1.trans (hb2.mono hB1.size)
    have hx2 := hx1.next hb2
    clear hx1 v0 v1 v2 v3 v4 hB1 hb2 hseat
    cases q with
    | false =>
      obtain rfl := HN2.out (by trivial)
      have HB := hid' hB2
      clear hB2 hx2
      go_wp2
      go_ret
      exact ⟨_, rfl, Com.Ints.nil _ _, HB.out⟩
    | true =>
      obtain ⟨v0, v1, v2, v3, v4⟩ := hx2.five
      go_wp2_with fail
      refine (HKI.out (by trivial) (by trivial) _ hB2).mono ?_
      rintro e w3 ⟨v, rfl, hr, hb3⟩
      have HR := hid' (row_base hr hB2.size)
      have HB := hid' (hB2.trans (hb3.mono hB2.size))
      clear hx2 v0 v1 v2 v3 v4 hB2 hb3 hr
      go_wp2
      go_ret
      exact ⟨_, rfl, HR.out, HB.out⟩
theorem make29 (n : Nat) (hn : n ≤ 4096) (w : World) : (Instr.makeSlice 29 (.int .i64 n) (.int .i64 n)).run Try.prog w = .ok (.slice (some ⟨w.heap.size, 0, none⟩) n n) (w.alloc (.cells (madeCells #[.bool false] n) 4)) := by
  have h : (Try.prog.info? 4).map (fun i => (i.zero, i.size, i.bytes)) = some (some (.bool false), 1, 1) := by kernel_rfl
  cases hi : Try.prog.info? 4 with
  | none => rw [hi] at h; cases h
  | some i =>
    rw [hi] at h
    have h' := Option.some.inj h
    have hz := congrArg (·.1) h'
    have hs := congrArg (·.2.1) h'
    have hb := congrArg (·.2.2) h'
    simp only at hz hs hb
    have := run_make (P := Try.prog) w 29 4 i (.bool false) Try.underlying29 hi hz .i64 .i64 n n (by omega) (by omega) (by rw [hb]; omega) (by omega)
    rw [this, hs]
    simp
    rfl
set_option maxHeartbeats 4000000 in
theorem rusable_any (a1 a2 a3 : Option Addr) (n1 c1 n2 c2 n3 c3 : Nat) (V : Ven) (w : World) (h : VenAt w a1 n1 c1 a2 n2 c2 a3 n3 c3 V) :
    Calls Try.prog 9 #[venV a1 n1 c1 V.gap V.radius a2 n2 c2 a3 n3 c3] w fun e w' => ∃ a n c, e = .returned (.slice a n c) ∧ MarksAt w' a n c (usableL V) ∧ Below w.heap.size w w' := by
  have hb0 := below_alloc w (.cells #[.slice a1 n1 c1, .int .i64 V.gap, .int .i64 V.radius, .slice a2 n2 c2, .slice a3 n3 c3] 26)
  have hx := Box.fresh w 26 #[.slice a1 n1 c1, .int .i64 V.gap, .int .i64 V.radius, .slice a2 n2 c2, .slice a3 n3 c3]
  have hn := h.s.len
  subst hn
  have hmay := rmay_any a1 a2 a3 V.seats.length c1 n2 c2 n3 c3 V _ (h.next hb0)
  obtain ⟨v0, v1, v2, v3, v4⟩ := hx.five
  cases hm : mayB V with
  | false =>
    rw [hm] at hmay
    have HE : Hid (usableL V = []) := by show usableL V = []; unfold usableL; rw [hm]; rfl
    clear h
    generalize usableL V = ans at *
    obtain rfl := HE.out
    generalize V.seats.length = n at *
    generalize V.radius = rad at *
    generalize V.gap = gap at *
    clear hm
    go_enter Try.func9, Try.ntmps9
    go_wp2_with fail
    refine hmay.mono ?_
    rintro e w1 ⟨rfl, hb1⟩
    have HB := hid' (hb0.trans (hb1.mono hb0.size))
    clear hx v0 v1 v2 v3 v4 hb0 hb1 hmay
    go_wp2
    go_ret
    exact ⟨_, _, _, rfl, Com.MarksAt.nil _, HB.out⟩
  | true =>
    rw [hm] at hmay
    have hW := may_wellK hm
    have hf := hW.few
    have HKI : Hid (∀ W, Below w.heap.size w W → ∀ j : Nat, j < V.seats.length → Calls Try.prog 19 #[venV a1 V.seats.length c1 V.gap V.radius a2 n2 c2 a3 n3 c3, .int .i64 j] W fun e w' => ∃ v, e = .returned v ∧ Ints W.heap.size w' v (byN V j) ∧ Below W.heap.size W w') := fun W hb j hj => rkilled_any a1 a2 a3 V.seats.length c1 n2 c2 n3 c3 V j hj hW W (h.next hb)
    have HE : Hid (usableL V = (List.range V.seats.length).map (fun k => !deadN V k)) := by show _ = _; unfold usableL; rw [if_pos hm]
    have hmk := make29 V.seats.length hf
    clear h hW hm
    generalize usableL V = ans at *
    go_enter Try.func9, Try.ntmps9
    go_wp2_with fail
    refine hmay.mono ?_
    rintro e w1 ⟨rfl, hb1⟩
    have hB1 := hb0.trans (hb1.mono hb0.size)
    have hx1 := hx.next hb1
    clear hx v0 v1 v2 v3 v4 hb0 hb1 hmay
    obtain ⟨v0, v1, v2, v3, v4⟩ := hx1.five
    have hb2 := below_alloc w1 (.cells (madeCells #[.bool false] V.seats.length) 4)
    have HX2 := hid' (hx1.next hb2)
    have HB2 := hid' (hB1.trans (hb2.mono hB1.size))
    have hrf := RowF.made w1 (.bool false) V.seats.length 4
    have hGw := hx1.lt
    go_wp2_with fail
    generalize w1.alloc (.cells (madeCells #[.bool false] V.seats.length) 4) = W0 at *
    obtain ⟨G, hG⟩ : ∃ G, G = w1.heap.size := ⟨_, rfl⟩
    rw [← hG] at hrf hGw ⊢
    have HR0 := hid' hrf
    clear hx1 hB1 hb2 hrf hmk hG v0 v1 v2 v3 v4
    go_loopw [4] (fun i wr => ∃ (k : Nat) (f : Nat → Value), k ≤ V.seats.length ∧ i = .int .i64 k ∧ Hid (Below w.heap.size w wr) ∧ Hid (Box wr w.heap.size 26 #[.slice a1 V.seats.length c1, .int .i64 V.gap, .int .i64 V.radius, .slice a2 n2 c2, .slice a3 n3 c3]) ∧ Hid (RowF wr G V.seats.length f) ∧ Hid (∀ j, j < k → f j = .bool (!deadN V j))) (fun i _ => V.seats.length - (intOf i).toNat)
    case atStart => exact ⟨0, _, Nat.zero_le _, rfl, HB2, HX2, HR0, fun j hj => absurd hj (by omega)⟩
    case round =>
      clear HB2 HX2 HR0
      obtain ⟨k, f, hk, rfl, HB, HX, HR, HF⟩ := hrel
      obtain ⟨v0, v1, v2, v3, v4⟩ := HX.out.five
      by_cases hlt : k < V.seats.length
      · have hltz : (k : Int) < (V.seats.length : Int) := by omega
        go_wp2_with fail
        refine (HKI.out wr HB.out k hlt).mono ?_
        rintro e w2 ⟨v, rfl, hr, hb3⟩
        obtain ⟨ra, rc, rfl⟩ := row_slice hr
        have HDE : Hid (((byN V k).length == 0) = !deadN V k) := by
          show ((byN V k).length == 0) = !deadN V k
          unfold deadN
          cases byN V k <;> simp
        have HB3 := hid' (HB.out.trans (hb3.mono HB.out.size))
        have HX3 := hid' (HX.out.next hb3)
        have HR3 := hid' (HR.out.next hb3)
        clear hr hb3 HB HX HR v0 v1 v2 v3 v4
        have HDZ : Hid ((((byN V k).length : Int) == 0) = !deadN V k) := by
          show (((byN V k).length : Int) == 0) = _
          rw [← HDE.out]
          cases byN V k <;> simp
          omega
        have hcell := (HR3.out.2 k hlt).1
        have hfro := (HR3.out.2 k hlt).2
        generalize (byN V k).length = q at *
        clear HDE
        cases hd : deadN V k with
        | true =>
          have HDD := hid' hd
          have hz : ((q : Int) == 0) = false := by rw [HDZ.out, hd]; rfl
          clear HDZ hd
          have HB4 := hid' (Below.setCell HB3.out (show w.heap.size ≤ (⟨G, k, none⟩ : Addr).block from Nat.le_of_lt hGw) (.bool false))
          have HX4 := hid' (HX3.out.other G k (by omega) (.bool false))
          have HR4 := hid' (HR3.out.put (f' := fun q => if q = k then .bool false else f q) k (.bool false) hlt (fun q _ => rfl))
          have HF4 : Hid (∀ q, q < k + 1 → (fun q => if q = k then Value.bool false else f q) q = .bool (!deadN V q)) := fun q hq => by
            show (if q = k then Value.bool false else f q) = _
            by_cases e : q = k
            · rw [if_pos e, e, HDD.out]; rfl
            · rw [if_neg e]; exact HF.out q (by omega)
          clear HB3 HX3 HR3 HF
          go_wp2_with fail
          exact ⟨⟨k + 1, _, by omega, by go_num, HB4, HX4, HR4, HF4⟩, by simp [intOf]; omega⟩
        | false =>
          have HDD := hid' hd
          have hz : ((q : Int) == 0) = true := by rw [HDZ.out, hd]; rfl
          clear HDZ hd
          have HB4 := hid' (Below.setCell HB3.out (show w.heap.size ≤ (⟨G, k, none⟩ : Addr).block from Nat.le_of_lt hGw) (.bool true))
          have HX4 := hid' (HX3.out.other G k (by omega) (.bool true))
          have HR4 := hid' (HR3.out.put (f' := fun q => if q = k then .bool true else f q) k (.bool true) hlt (fun q _ => rfl))
          have HF4 : Hid (∀ q, q < k + 1 → (fun q => if q = k then Value.bool true else f q) q = .bool (!deadN V q)) := fun q hq => by
            show (if q = k then Value.bool true else f q) = _
            by_cases e : q = k
            · rw [if_pos e, e, HDD.out]; rfl
            · rw [if_neg e]; exact HF.out q (by omega)
          clear HB3 HX3 HR3 HF
          go_wp2_with fail
          exact ⟨⟨k + 1, _, by omega, by go_num, HB4, HX4, HR4, HF4⟩, by simp [intOf]; omega⟩
      · have hltz : ¬ (k : Int) < (V.seats.length : Int) := by omega
        have hkn : k = V.seats.length := by omega
        have HM : Hid (MarksAt wr (some ⟨G, 0, none⟩) V.seats.length V.seats.length ans) := by
          have hl : ans.length = V.seats.length := by rw [HE.out]; simp
          refine marks_of_row HR.out hl (by unfold maxLen; omega) fun j hj => ?_
          rw [HF.out j (by omega)]
          have : ans[j] = !deadN V j := by simp [HE.out]
          rw [this]
        clear HR HF HX
        go_wp2
        go_ret
        exact ⟨_, _, _, rfl, HM.out, HB.out⟩
end Go.Proofs.Ytbmmjbklfheghaa.Kll
