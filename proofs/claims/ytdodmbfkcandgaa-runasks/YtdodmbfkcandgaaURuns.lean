/- run.Runs by its contract. -/
import Derived.Test.YtdodmbfkcandgaaURows
namespace Go.Proofs.Ytdodmbfkcandgaa.Rnn
set_option linter.unusedVariables false
set_option maxRecDepth 100000
open Go.RowKit Go.Shelf
open Go.Proofs.Ytdodmbfkcandgaa.Ven (Seat Pole Ven VenAt venV seatV Box mayB Sl SeatAt below_alloc ret_bool ret_int may_any intC row_next row_slice info3)

theorem role_three (V : Ven) (u : List Bool) (a : Int) : roleB V u a = 0 ∨ roleB V u a = 1 ∨ roleB V u a = 2 := by
  unfold roleB
  by_cases h1 : usB V.seats.length u a = true
  · rw [if_pos h1]
    by_cases h2 : (usB V.seats.length u (a - 1) && nextL V.seats V.gap (a - 1).toNat) = true
    · rw [if_pos h2]; exact .inr (.inr rfl)
    · rw [if_neg h2]; exact .inr (.inl rfl)
  · rw [if_neg h1]; exact .inl rfl
theorem runs_not (a1 a2 a3 u1 : Option Addr) (n1 c1 n2 c2 n3 c3 un uc : Nat) (V : Ven) (hm : mayB V = false) (w : World) (h : VenAt w a1 n1 c1 a2 n2 c2 a3 n3 c3 V) :
    Calls Try.prog 17 #[venV a1 n1 c1 V.gap V.radius a2 n2 c2 a3 n3 c3, .slice u1 un uc] w fun e w' => e = .returned (.slice none 0 0) ∧ Below w.heap.size w w' := by
  have hb0 := below_alloc w (.cells #[.slice a1 n1 c1, .int .i64 V.gap, .int .i64 V.radius, .slice a2 n2 c2, .slice a3 n3 c3] 26)
  have hx := Box.fresh w 26 #[.slice a1 n1 c1, .int .i64 V.gap, .int .i64 V.radius, .slice a2 n2 c2, .slice a3 n3 c3]
  have hmay := may_any a1 a2 a3 n1 c1 n2 c2 n3 c3 V _ (h.next hb0)
  obtain ⟨v0, v1, v2, v3, v4⟩ := hx.five
  clear h
  rw [hm] at hmay
  generalize V.radius = rad at *
  generalize V.gap = gap at *
  clear hm
  go_enter Try.func17, Try.ntmps17
  go_wp2_with fail
  refine hmay.mono ?_
  rintro e w1 ⟨rfl, hb1⟩
  have HB := hid' (hb0.trans (hb1.mono hb0.size))
  clear hx v0 v1 v2 v3 v4 hb0 hb1 hmay
  go_wp2
  go_ret
  exact ⟨rfl, HB.out⟩
set_option maxHeartbeats 8000000 in
theorem runs_any (a1 a2 a3 u1 : Option Addr) (n1 c1 n2 c2 n3 c3 un uc : Nat) (V : Ven) (u : List Bool) (w : World) (h : VenAt w a1 n1 c1 a2 n2 c2 a3 n3 c3 V) (hu : MarksAt w u1 un uc u) :
    Calls Try.prog 17 #[venV a1 n1 c1 V.gap V.radius a2 n2 c2 a3 n3 c3, .slice u1 un uc] w fun e w' => ∃ v, e = .returned v ∧ RowsS w' v (runsL V u) ∧ Below w.heap.size w w' := by
  have hb0 := below_alloc w (.cells #[.slice a1 n1 c1, .int .i64 V.gap, .int .i64 V.radius, .slice a2 n2 c2, .slice a3 n3 c3] 26)
  have hx := Box.fresh w 26 #[.slice a1 n1 c1, .int .i64 V.gap, .int .i64 V.radius, .slice a2 n2 c2, .slice a3 n3 c3]
  have hn := h.s.len
  subst hn
  have hmay := may_any a1 a2 a3 V.seats.length c1 n2 c2 n3 c3 V _ (h.next hb0)
  have HRO : Hid (mayB V = true → ∀ W, Below w.heap.size w W → ∀ b : Int, Calls Try.prog 26 #[venV a1 V.seats.length c1 V.gap V.radius a2 n2 c2 a3 n3 c3, .slice u1 un uc, .int .i64 b] W fun e w' => e = .returned (.int .i64 (roleB V u b)) ∧ Below W.heap.size W w') := fun hm W hW b => role_any a1 a2 a3 u1 V.seats.length c1 n2 c2 n3 c3 un uc V u b (may_well hm) W (h.next hW) (hu.next hW)
  have HV := hid' h
  obtain ⟨v0, v1, v2, v3, v4⟩ := hx.five
  clear h hu
  cases hm : mayB V with
  | false =>
    have HE : runsL V u = [] := by unfold runsL; rw [hm]; rfl
    rw [HE]
    exact (runs_not a1 a2 a3 u1 V.seats.length c1 n2 c2 n3 c3 un uc V hm w HV.out).mono fun e w' ⟨he, hb⟩ => ⟨_, he, RowsS.nil _, hb⟩
  | true =>
    rw [hm] at hmay
    have HRO2 := hid' (HRO.out hm)
    have HALL := hid' (part_all (u := u) hm)
    have hf := (may_well hm).few
    generalize runsL V u = ans at *
    clear HRO hm
    go_enter Try.func17, Try.ntmps17
    go_wp2_with fail
    refine hmay.mono ?_
    rintro e w1 ⟨rfl, hb1⟩
    have HB1 := hid' (hb0.trans (hb1.mono hb0.size))
    have HX1 := hid' (hx.next hb1)
    clear hx v0 v1 v2 v3 v4 hb0 hb1 hmay
    obtain ⟨v0, v1, v2, v3, v4⟩ := HX1.out.five
    have HG0 := hid' (Grows.start w1.heap.size w1)
    go_wp2_with fail
    clear v0 v1 v2 v3 v4
    go_loopw [5, 6, 7, 14] (fun v _ _ i wr => ∃ k : Nat, k ≤ V.seats.length ∧ i = .int .i64 k ∧ Hid (Grows w1.heap.size wr v (partN V u k)) ∧ Hid (Below w1.heap.size w1 wr)) (fun _ _ _ i _ => V.seats.length - (intOf i).toNat)
    case atStart => exact ⟨0, Nat.zero_le _, rfl, HG0, Below.refl _ _⟩
    case round =>
      clear HG0
      obtain ⟨k, hk, rfl, HGR, HBR⟩ := hrel
      have HXR := hid' (HX1.out.next HBR.out)
      by_cases hlt : k < V.seats.length
      · have hltz : (k : Int) < (V.seats.length : Int) := by omega
        obtain ⟨v0, v1, v2, v3, v4⟩ := HXR.out.five
        have HRK := hid' (HRO2.out wr (HB1.out.trans (HBR.out.mono HB1.out.size)) k)
        have HPL := hid' (part_len V u k hk)
        have HR3 : Hid (roleB V u k = 0 ∨ roleB V u k = 1 ∨ roleB V u k = 2) := role_three V u k
        have HNX : Hid (partN V u (k + 1) = if roleB V u k = 1 then addLast (partN V u k ++ [[]]) k else if roleB V u k = 2 then addLast (partN V u k) k else partN V u k) := rfl
        have HSO : Hid (roleB V u k = 2 → ∃ Q x, partN V u k = Q ++ [x]) := fun h => part_some hlt h
        generalize roleB V u k = r at *
        go_wp2_with fail
        refine HRK.out.mono ?_
        rintro e W2 ⟨rfl, hb2⟩
        have HGR2 := hid' (HGR.out.next hb2)
        have HBR2 := hid' (HBR.out.trans (hb2.mono HBR.out.size))
        clear v0 v1 v2 v3 v4 hb2 HRK HXR HGR HBR
        generalize partN V u k = P at *
        have HGR := HGR2
        have HBR := HBR2
        clear HGR2 HBR2
        rcases HR3.out with rfl | rfl | rfl
        · go_wp2_with fail
          exact ⟨⟨k + 1, by omega, by go_num, (show Grows _ _ _ _ by rw [HNX.out]; exact HGR.out), HBR⟩, by simp [intOf]; omega⟩
        · obtain ⟨Q, x, hqx⟩ : ∃ Q x, P ++ [[]] = Q ++ [x] := ⟨P, [], rfl⟩
          have HQX := hid' hqx
          clear hqx
          obtain ⟨vs, hv1, hv2⟩ := HGR.out.all
          clear HGR
          obtain ⟨av, cv, rfl⟩ := row_slice hv1
          have HV1 := hid' (row_next hv1 (below_alloc W2 (.cells #[.slice none 0 0] 23)))
          have HV2 := hid' (hv2.mono (bl' := (W2.alloc (.cells #[.slice none 0 0] 23)).heap.size) (W' := W2.alloc (.cells #[.slice none 0 0] 23)) (by simp) fun g hg _ => (below_alloc W2 (.cells #[.slice none 0 0] 23)).block g hg)
          have hsz : w1.heap.size ≤ (W2.alloc (.cells #[.slice none 0 0] 23)).heap.size := by have := HBR.out.size; simp; omega
          have hpl := HPL.out.1
          have HB1 := hid' (HBR.out.alloc HBR.out.size (.cells #[.slice none 0 0] 23))
          clear hv1 hv2
          obtain ⟨i1, hi1, hy0, hy1, hy2⟩ := info23
          go_wp2_with (at_builtin; refine wpList_append_own _ rfl _ _ 36 rfl w1.heap.size 23 i1 (.slice none 0 0) 1 24 Try.underlying36 hi1 hy0 hy1 hy2 rfl (by omega) _ _ _ rfl HV1.out ⟨W2.heap.size, 0, none⟩ 1 1 [.slice none 0 0] rfl ?qd1 ?qd2 ?qd3 ?qd4 ?qd5 ?qd6 ?_)
          case qd1 => rfl
          case qd2 =>
            intro t z ht
            rw [Addr.add_lit, Nat.zero_add, World.cell?_alloc_at _ _ _ _ rfl]
            show ([Value.slice none 0 0] : List Value).toArray[t]? = some z
            rw [List.getElem?_toArray]; exact ht
          case qd3 => intro z hz; simp at hz; subst hz; rfl
          case qd4 => unfold maxLen; omega
          case qd5 => omega
          case qd6 => exact hsz
          intro v6 WR hown6 hgr6 _
          have HBW := hid' (HB1.out.grown hgr6 hsz (fun t ht => (HV1.out.lt t ht).1))
          have HGN := hid' (Grows.more HV1.out HV2.out hown6 hgr6 hsz)
          clear hown6 hgr6 HV1 HV2 hsz HB1 hpl HBR
          have HGR := HGN
          have HBR := HBW
          clear HGN HBW
          have HPL := hid' (show (Q ++ [x]).length ≤ k + 1 ∧ ∀ y ∈ Q ++ [x], y.length ≤ k from by
            rw [← HQX.out]
            refine ⟨by have := HPL.out.1; simp; omega, fun y hy => ?_⟩
            rcases List.mem_append.1 hy with hy | hy
            · exact HPL.out.2 y hy
            · simp at hy; subst hy; simp)
          rw [HQX.out] at HGR
          have HNY : Hid (partN V u (k + 1) = Q ++ [x ++ [(k : Int)]]) := by
            show _ = _
            have := HNX.out
            rw [if_pos (by trivial), HQX.out, addLast_app] at this
            exact this
          obtain ⟨vq, vx, bl, G, cap, rfl, hr1, hr2, hr3, hr4, hr5, hr6⟩ := (HGR.out.last)
          clear HGR
          obtain ⟨av, cv, rfl⟩ := row_slice hr6
          have hcell : WR.cell? ⟨G, Q.length, none⟩ = some (.slice av x.length cv) := by
            rw [hr1.cellAt Q.length (by omega), List.getElem?_append_right (by omega), hr2, Nat.sub_self]; rfl
          have hR1 := hid' hr1
          have hR5 := hid' (hr5.mono (W' := WR.alloc (.cells #[.int .i64 k] 3)) (Nat.le_refl _) fun g hg _ => (below_alloc WR (.cells #[.int .i64 k] 3)).block g (by omega))
          have hR6 := hid' (hr6.next (below_alloc WR (.cells #[.int .i64 k] 3)))
          have hRA := hid' (row_next hr1 (below_alloc WR (.cells #[.int .i64 k] 3)))
          have hsz : bl ≤ (WR.alloc (.cells #[.int .i64 k] 3)).heap.size := by simp; omega
          have hq : Q.length ≤ 4095 := by have := HPL.out.1; simp at this; omega
          have hxl : x.length ≤ 4096 := by have := HPL.out.2 x (by simp); omega
          have hqz : ((Q.length : Nat) : Int) < ((Q.length + 1 : Nat) : Int) := by omega
          have hql : IntKind.i64.wrap (((Q.length + 1 : Nat) : Int) - 1) = (Q.length : Int) := by rw [IntKind.wrap_i64] <;> omega
          have HB1 := hid' (HBR.out.alloc HBR.out.size (.cells #[.int .i64 k] 3))
          have hr3' := hid' hr3
          clear hr1 hr2 hr3 hr5 hr6
          obtain ⟨i0, hi, hz0, hz1, hz2⟩ := Ven.info3
          go_wp2_with (at_builtin; refine wpList_append_own _ rfl _ _ 23 rfl bl 3 i0 (.int .i64 0) 1 8 Try.underlying23 hi hz0 hz1 hz2 rfl (by omega) _ _ _ rfl hR6.out ⟨WR.heap.size, 0, none⟩ 1 1 [.int .i64 k] rfl ?qc1 ?qc2 ?qc3 ?qc4 ?qc5 ?qc6 ?_)
          case qc1 => rfl
          case qc2 =>
            intro t z ht
            rw [Addr.add_lit, Nat.zero_add, World.cell?_alloc_at _ _ _ _ rfl]
            show ([Value.int .i64 (k : Int)] : List Value).toArray[t]? = some z
            rw [List.getElem?_toArray]; exact ht
          case qc3 => intro z hz; simp at hz; subst hz; rfl
          case qc4 => unfold maxLen; omega
          case qc5 => omega
          case qc6 => exact hsz
          intro v6 w6 hown6 hgr6 _
          obtain ⟨a6, c6, rfl⟩ := row_slice hown6
          have h7 : Ints bl w6 (.slice a6 (x.length + 1) c6) (x ++ [(k : Int)]) := by
            show w6.ownsRow _ _ _ _ _ _
            rw [List.flatMap_append, List.length_append]; exact hown6
          obtain ⟨p1, p2, p3, p4⟩ := Grows.put hRA.out hr3'.out hsz hR5.out hR6.out h7 hgr6
          have HP3 := hid' p3
          have HB6 := hid' (Below.setCell (HB1.out.grown hgr6 HB1.out.size (fun t ht => Nat.le_trans hr3'.out (hR6.out.lt t ht).1)) (show w1.heap.size ≤ (⟨G, Q.length, none⟩ : Addr).block from p4) (.slice a6 (x.length + 1) c6))
          clear p3 p4 hown6 hgr6 h7 hsz hq hxl hR1 hR5 hR6 hRA HB1 hr3' HBR hcell
          go_wp2_with fail
          exact ⟨⟨k + 1, by omega, by go_num, (show Grows _ _ _ _ by rw [HNY.out]; exact HP3.out), HB6⟩, by simp [intOf]; omega⟩
        · obtain ⟨Q, x, rfl⟩ := HSO.out rfl
          have HPL := hid' (show (Q ++ [x]).length ≤ k + 1 ∧ ∀ y ∈ Q ++ [x], y.length ≤ k from ⟨by have := HPL.out.1; omega, HPL.out.2⟩)
          have HNY : Hid (partN V u (k + 1) = Q ++ [x ++ [(k : Int)]]) := by
            show _ = _
            have := HNX.out
            rw [if_neg (by decide), if_pos (by trivial), addLast_app] at this
            exact this
          obtain ⟨vq, vx, bl, G, cap, rfl, hr1, hr2, hr3, hr4, hr5, hr6⟩ := (HGR.out.last)
          clear HGR
          obtain ⟨av, cv, rfl⟩ := row_slice hr6
          have hcell : W2.cell? ⟨G, Q.length, none⟩ = some (.slice av x.length cv) := by
            rw [hr1.cellAt Q.length (by omega), List.getElem?_append_right (by omega), hr2, Nat.sub_self]; rfl
          have hR1 := hid' hr1
          have hR5 := hid' (hr5.mono (W' := W2.alloc (.cells #[.int .i64 k] 3)) (Nat.le_refl _) fun g hg _ => (below_alloc W2 (.cells #[.int .i64 k] 3)).block g (by omega))
          have hR6 := hid' (hr6.next (below_alloc W2 (.cells #[.int .i64 k] 3)))
          have hRA := hid' (row_next hr1 (below_alloc W2 (.cells #[.int .i64 k] 3)))
          have hsz : bl ≤ (W2.alloc (.cells #[.int .i64 k] 3)).heap.size := by simp; omega
          have hq : Q.length ≤ 4095 := by have := HPL.out.1; simp at this; omega
          have hxl : x.length ≤ 4096 := by have := HPL.out.2 x (by simp); omega
          have hqz : ((Q.length : Nat) : Int) < ((Q.length + 1 : Nat) : Int) := by omega
          have hql : IntKind.i64.wrap (((Q.length + 1 : Nat) : Int) - 1) = (Q.length : Int) := by rw [IntKind.wrap_i64] <;> omega
          have HB1 := hid' (HBR.out.alloc HBR.out.size (.cells #[.int .i64 k] 3))
          have hr3' := hid' hr3
          clear hr1 hr2 hr3 hr5 hr6
          obtain ⟨i0, hi, hz0, hz1, hz2⟩ := Ven.info3
          go_wp2_with (at_builtin; refine wpList_append_own _ rfl _ _ 23 rfl bl 3 i0 (.int .i64 0) 1 8 Try.underlying23 hi hz0 hz1 hz2 rfl (by omega) _ _ _ rfl hR6.out ⟨W2.heap.size, 0, none⟩ 1 1 [.int .i64 k] rfl ?qc1 ?qc2 ?qc3 ?qc4 ?qc5 ?qc6 ?_)
          case qc1 => rfl
          case qc2 =>
            intro t z ht
            rw [Addr.add_lit, Nat.zero_add, World.cell?_alloc_at _ _ _ _ rfl]
            show ([Value.int .i64 (k : Int)] : List Value).toArray[t]? = some z
            rw [List.getElem?_toArray]; exact ht
          case qc3 => intro z hz; simp at hz; subst hz; rfl
          case qc4 => unfold maxLen; omega
          case qc5 => omega
          case qc6 => exact hsz
          intro v6 w6 hown6 hgr6 _
          obtain ⟨a6, c6, rfl⟩ := row_slice hown6
          have h7 : Ints bl w6 (.slice a6 (x.length + 1) c6) (x ++ [(k : Int)]) := by
            show w6.ownsRow _ _ _ _ _ _
            rw [List.flatMap_append, List.length_append]; exact hown6
          obtain ⟨p1, p2, p3, p4⟩ := Grows.put hRA.out hr3'.out hsz hR5.out hR6.out h7 hgr6
          have HP3 := hid' p3
          have HB6 := hid' (Below.setCell (HB1.out.grown hgr6 HB1.out.size (fun t ht => Nat.le_trans hr3'.out (hR6.out.lt t ht).1)) (show w1.heap.size ≤ (⟨G, Q.length, none⟩ : Addr).block from p4) (.slice a6 (x.length + 1) c6))
          clear p3 p4 hown6 hgr6 h7 hsz hq hxl hR1 hR5 hR6 hRA HB1 hr3' HBR hcell
          go_wp2_with fail
          exact ⟨⟨k + 1, by omega, by go_num, (show Grows _ _ _ _ by rw [HNY.out]; exact HP3.out), HB6⟩, by simp [intOf]; omega⟩
      · have hltz : ¬ (k : Int) < (V.seats.length : Int) := by omega
        have hkn : k = V.seats.length := by omega
        have HRES : Hid (RowsS wr u5 ans) := by
          have := HGR.out.rows
          rw [hkn, HALL.out] at this
          exact this
        have HB := hid' (HB1.out.trans (HBR.out.mono HB1.out.size))
        clear hkn HGR HXR
        go_wp2
        go_ret
        exact ⟨_, rfl, HRES.out, HB.out⟩
end Go.Proofs.Ytdodmbfkcandgaa.Rnn
