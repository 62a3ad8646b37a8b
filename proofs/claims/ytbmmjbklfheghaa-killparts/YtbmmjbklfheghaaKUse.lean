/- kill.Usable, Killed, By by contracts. -/
import Derived.Test.YtbmmjbklfheghaaKRef2
import Derived.Test.YtbmmjbklfheghaaKHide
namespace Go.Proofs.Ytbmmjbklfheghaa.Kll
set_option linter.unusedVariables false
set_option maxRecDepth 100000
open Go.RowKit Go.Shelf
open Go.Proofs.Ytbmmjbklfheghaa.Ven (Seat Pole Ven VenAt venV Box mayB mixed Sl below_alloc intC row_slice row_next info3 may_any RowF intC_len)
open Go.Proofs.Ytbmmjbklfheghaa.Geo (thoseN thoseN_succ thoseN_le thoseN_zero)
open Go.Proofs.Ytbmmjbklfheghaa.Com (hid' Ints row_base MarksAt marks_of_row)

/-- append of a row that a call made onto a row of its own. -/
theorem wpList_append_ints {ops : Array Oper} {rest : List Oper} {o : Oper} {a : Act} {Q : Exit → Act → World → Prop} {w : World} (hgd : o.guard = none) (s x : Operand)
    (ho : o.op = .call { callee := .builtin .append, args := #[s, x], argTypes := #[23, 23] })
    (base base2 : Nat) (v u : Value) (l m : List Int) (hs : a.eval s = v) (hown : Ints base w v l) (hx : a.eval x = u) (hu : Ints base2 w u m) (hl : l.length ≤ 1000) (hm : m.length ≤ 1000) (hbase : base ≤ w.heap.size)
    (h : ∀ v' w', Ints base w' v' (l ++ m) → w.grownBy w' v.ownBlock → wpList Try.prog ops Q rest (a.put o.dst v') w') : wpList Try.prog ops Q (o :: rest) a w := by
  obtain ⟨i0, hi0, hz0, hz1, hz2⟩ := info3
  rcases hu.2 with ⟨he, hn⟩ | ⟨g, cap, cur, he, _⟩
  · have hm0 : m = [] := List.eq_nil_of_length_eq_zero hn
    subst hm0 he
    have hr := run_append_owned_none (P := Try.prog) (w := w) base 23 o.type 3 i0 1 Try.underlying23 hi0 v l.length _ hown
    refine wpList_plain hgd fun _ hK => ?_
    unfold Oper.wp execOp
    simp only [ho, resolve, invoke, builtin, Sem.run_bind, Sem.run_pure, Result.andThen_ok, List.map_toArray, List.map_cons, List.map_nil, hs, hx, hr]
    exact hK _ _ (h v w (by rw [List.append_nil]; exact hown) ⟨rfl, rfl, rfl, Nat.le_refl _, fun _ _ _ => rfl⟩)
  · subst he
    refine wpList_append_own w hgd s x 23 ho base 3 i0 (.int .i64 0) 1 8 Try.underlying23 hi0 hz0 hz1 hz2 rfl (by omega) v l.length _ hs hown ⟨g, 0, none⟩ m.length cap (m.flatMap intC) hx hu.1 (fun j z hz => World.ownsRow.cells hu rfl j z hz) ?_ (by unfold maxLen; omega) (by omega) hbase ?_
    · intro z hz
      obtain ⟨t, _, hz⟩ := List.mem_flatMap.1 hz
      simp [intC] at hz; subst hz; rfl
    · intro v' w' h2 h3 _
      refine h v' w' ?_ h3
      show w'.ownsRow _ _ _ _ _ _
      rw [List.flatMap_append, List.length_append]; exact h2
set_option maxHeartbeats 4000000 in
theorem usable_any (a1 a2 a3 : Option Addr) (n1 c1 n2 c2 n3 c3 : Nat) (V : Ven) (w : World) (h : VenAt w a1 n1 c1 a2 n2 c2 a3 n3 c3 V) :
    Calls Try.prog 11 #[venV a1 n1 c1 V.gap V.radius a2 n2 c2 a3 n3 c3] w fun e w' => ∃ a n c, e = .returned (.slice a n c) ∧ MarksAt w' a n c (usableL V) ∧ Below w.heap.size w w' := by
  have hb0 := below_alloc w (.cells #[.slice a1 n1 c1, .int .i64 V.gap, .int .i64 V.radius, .slice a2 n2 c2, .slice a3 n3 c3] 26)
  have hx := Box.fresh w 26 #[.slice a1 n1 c1, .int .i64 V.gap, .int .i64 V.radius, .slice a2 n2 c2, .slice a3 n3 c3]
  have hn := h.s.len
  subst hn
  have hmay := may_any a1 a2 a3 V.seats.length c1 n2 c2 n3 c3 V _ (h.next hb0)
  obtain ⟨v0, v1, v2, v3, v4⟩ := hx.five
  cases hm : mayB V with
  | false =>
    rw [hm] at hmay
    have HE : Hid (usableL V = []) := by show usableL V = []; unfold usableL; rw [hm]; rfl
    clear h
    generalize usableL V = ans at *
    obtain rfl := HE.out
    generalize V.seats.length = n at *
    generalize V.radius = rad at *
    generalize V.gap = gap at *
    clear hm
    go_enter Try.func11, Try.ntmps11
    go_wp2_with fail
    refine hmay.mono ?_
    rintro e w1 ⟨rfl, hb1⟩
    have HB := hid' (hb0.trans (hb1.mono hb0.size))
    clear hx v0 v1 v2 v3 v4 hb0 hb1 hmay
    go_wp2
    go_ret
    exact ⟨_, _, _, rfl, Com.MarksAt.nil _, HB.out⟩
  | true =>
    rw [hm] at hmay
    have hf := (may_wellK hm).few
    have HKI : Hid (∀ W, Below w.heap.size w W → ∀ j : Nat, j < V.seats.length → Calls Try.prog 21 #[venV a1 V.seats.length c1 V.gap V.radius a2 n2 c2 a3 n3 c3, .int .i64 j] W fun e w' => e = .returned (.int .i64 (stateN V j)) ∧ Below W.heap.size W w') := fun W hb j hj => state_any a1 a2 a3 V.seats.length c1 n2 c2 n3 c3 V j hj hm W (h.next hb)
    have HE : Hid (usableL V = (List.range V.seats.length).map (fun k => !deadN V k)) := by show _ = _; unfold usableL; rw [if_pos hm]
    have hmk := make29 V.seats.length hf
    clear h hm
    generalize usableL V = ans at *
    go_enter Try.func11, Try.ntmps11
    go_wp2_with fail
    refine hmay.mono ?_
    rintro e w1 ⟨rfl, hb1⟩
    have hB1 := hb0.trans (hb1.mono hb0.size)
    have hx1 := hx.next hb1
    clear hx v0 v1 v2 v3 v4 hb0 hb1 hmay
    obtain ⟨v0, v1, v2, v3, v4⟩ := hx1.five
    have hb2 := below_alloc w1 (.cells (madeCells #[.bool false] V.seats.length) 4)
    have HX2 := hid' (hx1.next hb2)
    have HB2 := hid' (hB1.trans (hb2.mono hB1.size))
    have hrf := RowF.made w1 (.bool false) V.seats.length 4
    have hGw := hx1.lt
    go_wp2_with fail
    generalize w1.alloc (.cells (madeCells #[.bool false] V.seats.length) 4) = W0 at *
    obtain ⟨G, hG⟩ : ∃ G, G = w1.heap.size := ⟨_, rfl⟩
    rw [← hG] at hrf hGw ⊢
    have HR0 := hid' hrf
    clear hx1 hB1 hb2 hrf hmk hG v0 v1 v2 v3 v4
    go_loopw [4, 14] (fun _ i wr => ∃ (k : Nat) (f : Nat → Value), k ≤ V.seats.length ∧ i = .int .i64 k ∧ Hid (Below w.heap.size w wr) ∧ Hid (Box wr w.heap.size 26 #[.slice a1 V.seats.length c1, .int .i64 V.gap, .int .i64 V.radius, .slice a2 n2 c2, .slice a3 n3 c3]) ∧ Hid (RowF wr G V.seats.length f) ∧ Hid (∀ j, j < k → f j = .bool (!deadN V j))) (fun _ i _ => V.seats.length - (intOf i).toNat)
    case atStart => exact ⟨0, _, Nat.zero_le _, rfl, HB2, HX2, HR0, fun j hj => absurd hj (by omega)⟩
    case round =>
      clear HB2 HX2 HR0
      obtain ⟨k, f, hk, rfl, HB, HX, HR, HF⟩ := hrel
      obtain ⟨v0, v1, v2, v3, v4⟩ := HX.out.five
      by_cases hlt : k < V.seats.length
      · have hltz : (k : Int) < (V.seats.length : Int) := by omega
        go_wp2_with fail
        refine (HKI.out wr HB.out k hlt).mono ?_
        rintro e w2 ⟨rfl, hb3⟩
        have HDZ := hid' (state_dead V k)
        have HB3 := hid' (HB.out.trans (hb3.mono HB.out.size))
        have HX3 := hid' (HX.out.next hb3)
        have HR3 := hid' (HR.out.next hb3)
        clear hb3 HB HX HR v0 v1 v2 v3 v4
        have hcell := (HR3.out.2 k hlt).1
        have hfro := (HR3.out.2 k hlt).2
        generalize stateN V k = q at *
        cases hd : deadN V k with
        | true =>
          have HDD := hid' hd
          have hz : (q == 0) = false := by rw [HDZ.out, hd]; rfl
          clear HDZ hd
          have HB4 := hid' (Below.setCell HB3.out (show w.heap.size ≤ (⟨G, k, none⟩ : Addr).block from Nat.le_of_lt hGw) (.bool false))
          have HX4 := hid' (HX3.out.other G k (by omega) (.bool false))
          have HR4 := hid' (HR3.out.put (f' := fun q => if q = k then .bool false else f q) k (.bool false) hlt (fun q _ => rfl))
          have HF4 : Hid (∀ q, q < k + 1 → (fun q => if q = k then Value.bool false else f q) q = .bool (!deadN V q)) := fun q hq => by
            show (if q = k then Value.bool false else f q) = _
            by_cases e : q = k
            · rw [if_pos e, e, HDD.out]; rfl
            · rw [if_neg e]; exact HF.out q (by omega)
          clear HB3 HX3 HR3 HF
          go_wp2_with fail
          exact ⟨⟨k + 1, _, by omega, by go_num, HB4, HX4, HR4, HF4⟩, by simp [intOf]; omega⟩
        | false =>
          have HDD := hid' hd
          have hz : (q == 0) = true := by rw [HDZ.out, hd]; rfl
          clear HDZ hd
          have HB4 := hid' (Below.setCell HB3.out (show w.heap.size ≤ (⟨G, k, none⟩ : Addr).block from Nat.le_of_lt hGw) (.bool true))
          have HX4 := hid' (HX3.out.other G k (by omega) (.bool true))
          have HR4 := hid' (HR3.out.put (f' := fun q => if q = k then .bool true else f q) k (.bool true) hlt (fun q _ => rfl))
          have HF4 : Hid (∀ q, q < k + 1 → (fun q => if q = k then Value.bool true else f q) q = .bool (!deadN V q)) := fun q hq => by
            show (if q = k then Value.bool true else f q) = _
            by_cases e : q = k
            · rw [if_pos e, e, HDD.out]; rfl
            · rw [if_neg e]; exact HF.out q (by omega)
          clear HB3 HX3 HR3 HF
          go_wp2_with fail
          exact ⟨⟨k + 1, _, by omega, by go_num, HB4, HX4, HR4, HF4⟩, by simp [intOf]; omega⟩
      · have hltz : ¬ (k : Int) < (V.seats.length : Int) := by omega
        have hkn : k = V.seats.length := by omega
        have HM : Hid (MarksAt wr (some ⟨G, 0, none⟩) V.seats.length V.seats.length ans) := by
          have hl : ans.length = V.seats.length := by rw [HE.out]; simp
          refine marks_of_row HR.out hl (by unfold maxLen; omega) fun j hj => ?_
          rw [HF.out j (by omega)]
          have : ans[j] = !deadN V j := by simp [HE.out]
          rw [this]
        clear HR HF HX
        go_wp2
        go_ret
        exact ⟨_, _, _, rfl, HM.out, HB.out⟩
set_option maxHeartbeats 4000000 in
theorem killed_any (a1 a2 a3 : Option Addr) (n1 c1 n2 c2 n3 c3 : Nat) (V : Ven) (w : World) (h : VenAt w a1 n1 c1 a2 n2 c2 a3 n3 c3 V) :
    Calls Try.prog 13 #[venV a1 n1 c1 V.gap V.radius a2 n2 c2 a3 n3 c3] w fun e w' => ∃ v, e = .returned v ∧ Sl 1 intC w' v (killedL V) ∧ Below w.heap.size w w' := by
  have hb0 := below_alloc w (.cells #[.slice a1 n1 c1, .int .i64 V.gap, .int .i64 V.radius, .slice a2 n2 c2, .slice a3 n3 c3] 26)
  have hx := Box.fresh w 26 #[.slice a1 n1 c1, .int .i64 V.gap, .int .i64 V.radius, .slice a2 n2 c2, .slice a3 n3 c3]
  have hu := usable_any a1 a2 a3 n1 c1 n2 c2 n3 c3 V _ (h.next hb0)
  obtain ⟨v0, v1, v2, v3, v4⟩ := hx.five
  clear h
  go_enter Try.func13, Try.ntmps13
  go_wp2_with fail
  refine hu.mono ?_
  rintro e w1 ⟨ua, un, uc, rfl, hm, hb1⟩
  have hl := hm.len
  subst hl
  have HB0 := hid' (hb0.trans (hb1.mono hb0.size))
  have HM := hid' hm
  have hfew := usable_few V
  clear hx v0 v1 v2 v3 v4 hb0 hb1 hu hm
  go_wp2_with fail
  go_loopw [3, 4, 5, 9] (fun v _ _ i wr => ∃ k : Nat, k ≤ (usableL V).length ∧ i = .int .i64 k ∧ Hid (Ints w1.heap.size wr v (thoseN k (deadN V))) ∧ Hid (Below w1.heap.size w1 wr)) (fun _ _ _ i _ => (usableL V).length - (intOf i).toNat)
  case atStart => exact ⟨0, Nat.zero_le _, rfl, Com.Ints.nil _ _, Below.refl _ _⟩
  case round =>
    obtain ⟨k, hk, rfl, HR, HB⟩ := hrel
    by_cases hlt : k < (usableL V).length
    · have hltz : (k : Int) < ((usableL V).length : Int) := by omega
      obtain ⟨ub, uo, rfl, hu1, hu2⟩ := (HM.out.next HB.out).at k hlt
      rw [usable_get hlt] at hu2
      have HN := hid' (thoseN_succ k (deadN V))
      have HLL := hid' (thoseN_le k (deadN V))
      have hll : (thoseN k (deadN V)).length ≤ 4096 := by have := HLL.out; omega
      clear HLL hu1
      generalize thoseN k (deadN V) = l at *
      generalize hq : thoseN (k + 1) (deadN V) = l2 at *
      have HQ := hid' hq
      clear hq
      cases hd : deadN V k with
      | true =>
        rw [hd] at hu2
        have HT2 : Hid (l2 = l ++ [(k : Int)]) := by
          have := HN.out
          rw [hd, if_pos rfl] at this; exact this
        clear HN hd
        obtain ⟨av, cv, rfl⟩ := row_slice HR.out
        have HR2 := hid' (row_next HR.out ((Below.refl _ wr).alloc (Nat.le_refl _) (.cells #[.int .i64 (k : Int)] 3)))
        have hsz : w1.heap.size ≤ (wr.alloc (.cells #[.int .i64 (k : Int)] 3)).heap.size := by have := HB.out.size; simp; omega
        have HB1 := hid' (HB.out.alloc HB.out.size (.cells #[.int .i64 (k : Int)] 3))
        obtain ⟨i0, hi0, hz0, hz1, hz2⟩ := info3
        go_wp2_with (at_builtin; refine wpList_append_own _ rfl _ _ 23 rfl w1.heap.size 3 i0 (.int .i64 0) 1 8 Try.underlying23 hi0 hz0 hz1 hz2 rfl (by omega) _ _ _ rfl HR2.out ⟨wr.heap.size, 0, none⟩ 1 1 [.int .i64 (k : Int)] rfl ?qc1 ?qc2 ?qc3 ?qc4 ?qc5 ?qc6 ?_)
        case qc1 => rfl
        case qc2 =>
          intro t z ht
          rw [Addr.add_lit, Nat.zero_add, World.cell?_alloc_at _ _ _ _ rfl]
          show ([Value.int .i64 (k : Int)] : List Value).toArray[t]? = some z
          rw [List.getElem?_toArray]; exact ht
        case qc3 => intro z hz; simp at hz; subst hz; rfl
        case qc4 => unfold maxLen; omega
        case qc5 => omega
        case qc6 => exact hsz
        intro v6 w6 hown6 hgr6 _
        have HB6 := hid' (HB1.out.grown hgr6 hsz (fun t ht => (HR2.out.lt t ht).1))
        have HR6 : Hid (Ints w1.heap.size w6 v6 (l ++ [(k : Int)])) := by
          show w6.ownsRow _ _ _ _ _ _
          rw [List.flatMap_append, List.length_append]; exact hown6
        clear hown6 hgr6 HR HR2 hsz HB HB1 hu2
        go_wp2_with fail
        exact ⟨⟨k + 1, by omega, by go_num, (show Ints _ _ _ _ by rw [HQ.out, HT2.out]; exact HR6.out), HB6⟩, by simp [intOf]; omega⟩
      | false =>
        rw [hd] at hu2
        have HT2 : Hid (l2 = l) := by
          have := HN.out
          rw [hd, if_neg (by decide)] at this; exact this
        clear HN hd
        go_wp2_with fail
        exact ⟨⟨k + 1, by omega, by go_num, (show Ints _ _ _ _ by rw [HQ.out, HT2.out]; exact HR.out), HB⟩, by simp [intOf]; omega⟩
    · have hltz : ¬ (k : Int) < ((usableL V).length : Int) := by omega
      have hkn : k = (usableL V).length := by omega
      have HRF : Hid (Sl 1 intC wr u3 (killedL V)) := by
        have := HR.out.sl
        rw [hkn, those_usable] at this
        exact this
      have HBF := hid' (HB0.out.trans (HB.out.mono HB0.out.size))
      clear HR hkn
      go_wp2
      go_ret
      exact ⟨_, rfl, HRF.out, HBF.out⟩
theorem killN_one : ∀ (l : List Int) (k : Nat), l.Pairwise (fun a b => a < b) → (k : Int) ∈ l → killN l k = [-1]
  | [], _, _, h => nomatch h
  | a :: r, k, hp, hm => by
    rw [List.pairwise_cons] at hp
    by_cases e : a = (k : Int)
    · have : r.filter (fun z => decide (z = (k : Int))) = [] := List.filter_eq_nil_iff.2 (fun z hz => by have := hp.1 z hz; simp; omega)
      unfold killN
      rw [List.filter_cons_of_pos (by simpa using e), this]; rfl
    · have h2 : (k : Int) ∈ r := by
        rcases List.mem_cons.1 hm with h | h
        · exact absurd h.symm e
        · exact h
      have := killN_one r k hp.2 h2
      unfold killN at this ⊢
      rw [List.filter_cons_of_neg (by simpa using e)]; exact this
theorem state_by {V : Ven} {j : Nat} (hm : mayB V = true) (hj : j < V.seats.length) : (stateN V j = 2 ∧ byB V j = [-1] ++ thoseN V.poles.length (poleN V j)) ∨ (stateN V j = 1 ∧ byB V j = thoseN V.poles.length (poleN V j)) ∨ (stateN V j = 0 ∧ byB V j = []) := by
  rw [byB_nat hm hj]
  unfold stateN byN
  by_cases h : (j : Int) ∈ V.kills
  · rw [if_pos h, killN_one _ _ (may_kills hm) h]; exact .inl ⟨rfl, rfl⟩
  · rw [if_neg h]
    have : killN V.kills j = [] := Classical.byContradiction fun hc => h ((killN_some V.kills j).1 hc)
    rw [this, List.nil_append]
    by_cases h2 : thoseN V.poles.length (poleN V j) = []
    · rw [if_pos h2]; exact .inr (.inr ⟨rfl, h2⟩)
    · rw [if_neg h2]; exact .inr (.inl ⟨rfl, rfl⟩)
set_option maxHeartbeats 4000000 in
theorem by_any (a1 a2 a3 : Option Addr) (n1 c1 n2 c2 n3 c3 : Nat) (V : Ven) (k : Int) (w : World) (h : VenAt w a1 n1 c1 a2 n2 c2 a3 n3 c3 V) :
    Calls Try.prog 14 #[venV a1 n1 c1 V.gap V.radius a2 n2 c2 a3 n3 c3, .int .i64 k] w fun e w' => ∃ v, e = .returned v ∧ Sl 1 intC w' v (byB V k) ∧ Below w.heap.size w w' := by
  have hb0 := below_alloc w (.cells #[.slice a1 n1 c1, .int .i64 V.gap, .int .i64 V.radius, .slice a2 n2 c2, .slice a3 n3 c3] 26)
  have hx := Box.fresh w 26 #[.slice a1 n1 c1, .int .i64 V.gap, .int .i64 V.radius, .slice a2 n2 c2, .slice a3 n3 c3]
  have hn := h.s.len
  subst hn
  have hseat := isSeat_any a1 a2 a3 V.seats.length c1 n2 c2 n3 c3 V.gap V.radius k
  have HMA : Hid (∀ W, Below w.heap.size w W → Calls Try.prog 20 #[venV a1 V.seats.length c1 V.gap V.radius a2 n2 c2 a3 n3 c3] W fun e w' => e = .returned (.bool (mayB V)) ∧ Below W.heap.size W w') := fun W hW => may_any a1 a2 a3 V.seats.length c1 n2 c2 n3 c3 V W (h.next hW)
  have HKI : Hid (mayB V = true → decide (0 ≤ k ∧ k < (V.seats.length : Int)) = true → ∃ (st : Int) (hid : List Int), hid.length ≤ 200 ∧ ((st = 2 ∧ byB V k = [-1] ++ hid) ∨ (st = 1 ∧ byB V k = hid) ∨ (st = 0 ∧ byB V k = [])) ∧ Hid (∀ W, Below w.heap.size w W → Calls Try.prog 21 #[venV a1 V.seats.length c1 V.gap V.radius a2 n2 c2 a3 n3 c3, .int .i64 k] W fun e w' => e = .returned (.int .i64 st) ∧ Below W.heap.size W w') ∧ Hid (∀ W, Below w.heap.size w W → Calls Try.prog 23 #[venV a1 V.seats.length c1 V.gap V.radius a2 n2 c2 a3 n3 c3, .int .i64 k] W fun e w' => ∃ v, e = .returned v ∧ Ints W.heap.size w' v hid ∧ Below W.heap.size W w')) := fun hm hd => by
    have hd := of_decide_eq_true hd
    obtain ⟨j, rfl, hj⟩ : ∃ j : Nat, k = (j : Int) ∧ j < V.seats.length := ⟨k.toNat, by omega, by omega⟩
    have hW := may_wellK hm
    refine ⟨stateN V j, thoseN V.poles.length (poleN V j), Nat.le_trans (thoseN_le _ _) hW.poles, state_by hm hj, fun W hb => state_any a1 a2 a3 V.seats.length c1 n2 c2 n3 c3 V j hj hm W (h.next hb), fun W hb => hiders_any a1 a2 a3 V.seats.length c1 n2 c2 n3 c3 V j hj hW W (h.next hb)⟩
  have HN1 : Hid (mayB V = false → byB V k = []) := fun hm => by unfold byB; rw [if_neg (fun hc => by rw [hm] at hc; cases hc.1)]
  have HN2 : Hid (decide (0 ≤ k ∧ k < (V.seats.length : Int)) = false → byB V k = []) := fun hd => byB_off (of_decide_eq_false hd)
  obtain ⟨v0, v1, v2, v3, v4⟩ := hx.five
  clear h
  generalize byB V k = ans at *
  generalize decide (0 ≤ k ∧ k < (V.seats.length : Int)) = q at *
  generalize mayB V = m at *
  generalize V.radius = rad at *
  generalize V.gap = gap at *
  generalize V.seats.length = n at *
  go_enter Try.func14, Try.ntmps14
  go_wp2_with fail
  refine (hseat _).mono ?_
  rintro e w1 ⟨rfl, hb1⟩
  have hB1 := hb0.trans (hb1.mono hb0.size)
  have hx1 := hx.next hb1
  clear hx v0 v1 v2 v3 v4 hb0 hb1 hseat
  cases q with
  | false =>
    obtain rfl := HN2.out (by trivial)
    have HB := hid' hB1
    clear hB1 hx1 HKI HMA
    go_wp2
    go_ret
    exact ⟨_, rfl, (Com.Ints.nil 0 _).sl, HB.out⟩
  | true =>
    obtain ⟨v0, v1, v2, v3, v4⟩ := hx1.five
    go_wp2_with fail
    refine (HMA.out _ hB1).mono ?_
    rintro e w2 ⟨rfl, hb2⟩
    have hB2 := hB1.trans (hb2.mono hB1.size)
    have hx2 := hx1.next hb2
    clear hx1 v0 v1 v2 v3 v4 hB1 hb2 HMA
    cases m with
    | false =>
      obtain rfl := HN1.out (by trivial)
      have HB := hid' hB2
      clear hB2 hx2 HKI
      go_wp2
      go_ret
      exact ⟨_, rfl, (Com.Ints.nil 0 _).sl, HB.out⟩
    | true =>
      obtain ⟨st, hd, hlen, hway, HS, HH⟩ := HKI.out (by trivial) (by trivial)
      obtain ⟨v0, v1, v2, v3, v4⟩ := hx2.five
      clear HKI HN1 HN2
      go_wp2_with fail
      refine (HS.out _ hB2).mono ?_
      rintro e w3 ⟨rfl, hb3⟩
      have HB3 := hid' (hB2.trans (hb3.mono hB2.size))
      have HX3 := hid' (hx2.next hb3)
      clear hx2 v0 v1 v2 v3 v4 hB2 hb3 HS
      rcases hway with ⟨rfl, rfl⟩ | ⟨rfl, rfl⟩ | ⟨rfl, rfl⟩
      · have HR2 : Hid (Ints w3.heap.size (w3.alloc (.cells #[.int .i64 (-1)] 3)) (.slice none 0 0) []) := Com.Ints.nil _ _
        have hsz : w3.heap.size ≤ (w3.alloc (.cells #[.int .i64 (-1)] 3)).heap.size := by simp
        have HB1 := hid' ((Below.refl _ w3).alloc (Nat.le_refl _) (.cells #[.int .i64 (-1)] 3))
        have HU1 : Hid (Ints w3.heap.size (w3.alloc (.cells #[.int .i64 (-1)] 3)) (.slice (some ⟨w3.heap.size, 0, none⟩) 1 1) [-1]) := World.ownsRow_lit (base := w3.heap.size) (size := 1) w3 #[.int .i64 (-1)] 1 (Nat.le_refl _) (by unfold maxLen; omega) rfl
        go_wp2_with (at_builtin; refine wpList_append_ints rfl _ _ rfl w3.heap.size w3.heap.size (.slice none 0 0) (.slice (some ⟨w3.heap.size, 0, none⟩) 1 1) [] [-1] rfl HR2.out rfl HU1.out (by simp) (by simp) hsz ?_)
        intro v6 w6 hown6 hgr6
        have hb6 := HB1.out.grown hgr6 hsz (fun t ht => (HR2.out.lt t ht).1)
        have HX6 := hid' (HX3.out.next hb6)
        have HB6 := hid' (HB3.out.trans (hb6.mono HB3.out.size))
        have hs6 := hb6.size
        have HR6 : Hid (Ints w3.heap.size w6 v6 [-1]) := hown6
        clear hown6 hgr6 HR2 hsz HB1 HX3 hb6 HU1
        obtain ⟨v0, v1, v2, v3, v4⟩ := HX6.out.five
        go_wp2_with fail
        refine (HH.out _ HB6.out).mono ?_
        rintro e w7 ⟨u, rfl, hu, hb7⟩
        have HU := hid' hu
        have HR7 := hid' (HR6.out.next hb7)
        have hs7 : w3.heap.size ≤ w7.heap.size := by have := hb7.size; omega
        have HB7 := hid' (HB6.out.trans (hb7.mono HB6.out.size))
        have HB7b := hid' hb7
        clear hu hb7 HR6 HX6 v0 v1 v2 v3 v4 HH
        have hbb : w.heap.size ≤ w3.heap.size := HB3.out.size
        clear HB3 HB6
        go_wp2_with (at_builtin; refine wpList_append_ints rfl _ _ rfl w3.heap.size w6.heap.size v6 u [-1] hd rfl HR7.out rfl HU.out (by simp) (by omega) hs7 ?_)
        intro v8 w8 hr8 hg8
        have HB8 := hid' (HB7.out.grown hg8 (Nat.le_trans hbb hs7) (fun t ht => Nat.le_trans hbb (HR7.out.lt t ht).1))
        have HR8 := hid' hr8.sl
        clear hr8 hg8 HR7 HU
        go_wp2
        go_ret
        exact ⟨_, rfl, HR8.out, HB8.out⟩
      · obtain ⟨v0, v1, v2, v3, v4⟩ := HX3.out.five
        go_wp2_with fail
        refine (HH.out _ HB3.out).mono ?_
        rintro e w7 ⟨u, rfl, hu, hb7⟩
        have HU := hid' hu
        have HR7 : Hid (Ints w3.heap.size w7 (.slice none 0 0) []) := Com.Ints.nil _ _
        have hs7 : w3.heap.size ≤ w7.heap.size := hb7.size
        have HB7 := hid' (HB3.out.trans (hb7.mono HB3.out.size))
        have hbb : w.heap.size ≤ w3.heap.size := HB3.out.size
        clear hu hb7 HX3 v0 v1 v2 v3 v4 HH HB3
        go_wp2_with (at_builtin; refine wpList_append_ints rfl _ _ rfl w3.heap.size w3.heap.size (.slice none 0 0) u [] ans rfl HR7.out rfl HU.out (by simp) (by omega) hs7 ?_)
        intro v8 w8 hr8 hg8
        have HB8 := hid' (HB7.out.grown hg8 (Nat.le_trans hbb hs7) (fun t ht => Nat.le_trans hbb (HR7.out.lt t ht).1))
        have HR8 := hid' hr8.sl
        clear hr8 hg8 HR7 HU
        go_wp2
        go_ret
        exact ⟨_, rfl, HR8.out, HB8.out⟩
      · go_wp2
        go_ret
        exact ⟨_, rfl, (Com.Ints.nil 0 _).sl, HB3.out⟩
end Go.Proofs.Ytbmmjbklfheghaa.Kll
