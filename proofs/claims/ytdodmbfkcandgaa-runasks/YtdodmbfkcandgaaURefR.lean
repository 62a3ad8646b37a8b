/- parterreref6.row, Run, Runs by contracts. -/
import Derived.Test.YtdodmbfkcandgaaURefL
import Derived.Test.YtdodmbfkcandgaaURows
namespace Go.Proofs.Ytdodmbfkcandgaa.Rnn
set_option linter.unusedVariables false
set_option maxRecDepth 100000
open Go.RowKit Go.Shelf
open Go.Proofs.Ytdodmbfkcandgaa.Ven (Seat Pole Ven VenAt venV seatV Box mayB mixed Sl SeatAt below_alloc ret_bool ret_int rmay_any row_next row_slice intC info3)

theorem rowL_succ (a k : Nat) : rowL a (k + 1) = rowL a k ++ [((a + k : Nat) : Int)] := by
  unfold rowL
  rw [List.range'_concat]
  simp
set_option maxHeartbeats 4000000 in
theorem rrow_any (a n : Nat) (hn : a + n ≤ 4096) (w : World) :
    Calls Try.prog 21 #[.int .i64 a, .int .i64 n] w fun e w' => ∃ v, e = .returned v ∧ Ints w.heap.size w' v (rowL a n) ∧ Below w.heap.size w w' := by
  have HR0 : Hid (Ints w.heap.size w (.slice none 0 0) (rowL a 0)) := Ints.nil _ _
  go_enter Try.func21, Try.ntmps21
  go_wp2_with fail
  go_loopw [5, 6] (fun v i wr => ∃ k : Nat, k ≤ n ∧ i = .int .i64 k ∧ Hid (Ints w.heap.size wr v (rowL a k)) ∧ Hid (Below w.heap.size w wr)) (fun _ i _ => n - (intOf i).toNat)
  case atStart => exact ⟨0, Nat.zero_le _, rfl, HR0, Below.refl _ _⟩
  case round =>
    clear HR0
    obtain ⟨k, hk, rfl, HR, HB⟩ := hrel
    by_cases hlt : k < n
    · have hltz : (k : Int) < (n : Int) := by omega
      have hwr : IntKind.i64.wrap ((a : Int) + (k : Int)) = (a : Int) + (k : Int) := by rw [IntKind.wrap_i64] <;> omega
      have HE := hid' (rowL_succ a k)
      have HLN := hid' (rowL_len a k)
      generalize rowL a k = l at *
      obtain ⟨av, cv, rfl⟩ := row_slice HR.out
      have hll : l.length ≤ 4096 := by rw [HLN.out]; omega
      have HR2 := hid' (row_next HR.out ((Below.refl _ wr).alloc (Nat.le_refl _) (.cells #[.int .i64 ((a : Int) + (k : Int))] 3)))
      have hsz : w.heap.size ≤ (wr.alloc (.cells #[.int .i64 ((a : Int) + (k : Int))] 3)).heap.size := by have := HB.out.size; simp; omega
      have HB1 := hid' (HB.out.alloc HB.out.size (.cells #[.int .i64 ((a : Int) + (k : Int))] 3))
      clear HLN HR HB
      obtain ⟨i0, hi, hz0, hz1, hz2⟩ := info3
      go_wp2_with (at_builtin; refine wpList_append_own _ rfl _ _ 23 rfl w.heap.size 3 i0 (.int .i64 0) 1 8 Try.underlying23 hi hz0 hz1 hz2 rfl (by omega) _ _ _ rfl HR2.out ⟨wr.heap.size, 0, none⟩ 1 1 [.int .i64 ((a : Int) + (k : Int))] rfl ?qc1 ?qc2 ?qc3 ?qc4 ?qc5 ?qc6 ?_)
      case qc1 => rfl
      case qc2 =>
        intro t z ht
        rw [Addr.add_lit, Nat.zero_add, World.cell?_alloc_at _ _ _ _ rfl]
        show ([Value.int .i64 ((a : Int) + (k : Int))] : List Value).toArray[t]? = some z
        rw [List.getElem?_toArray]; exact ht
      case qc3 => intro z hz; simp at hz; subst hz; rfl
      case qc4 => unfold maxLen; omega
      case qc5 => omega
      case qc6 => exact hsz
      intro v6 w6 hown6 hgr6 _
      have HB6 := hid' (HB1.out.grown hgr6 hsz (fun t ht => (HR2.out.lt t ht).1))
      have HR6 : Hid (Ints w.heap.size w6 v6 (rowL a (k + 1))) := by
        show w6.ownsRow _ _ _ _ _ _
        rw [HE.out, List.flatMap_append, List.length_append]; exact hown6
      clear hown6 hgr6 HE HR2 hsz hll HB1
      go_wp2_with fail
      exact ⟨⟨k + 1, by omega, by go_num, HR6, HB6⟩, by simp [intOf]; omega⟩
    · have hltz : ¬ (k : Int) < (n : Int) := by omega
      have hkn : k = n := by omega
      subst hkn
      go_wp2
      go_ret
      exact ⟨_, rfl, HR.out, HB.out⟩
set_option maxHeartbeats 4000000 in
theorem rrun_any (a1 a2 a3 u1 : Option Addr) (n1 c1 n2 c2 n3 c3 un uc : Nat) (V : Ven) (u : List Bool) (a size : Int) (w : World) (h : VenAt w a1 n1 c1 a2 n2 c2 a3 n3 c3 V) (hu : MarksAt w u1 un uc u) :
    Calls Try.prog 10 #[venV a1 n1 c1 V.gap V.radius a2 n2 c2 a3 n3 c3, .slice u1 un uc, .int .i64 a, .int .i64 size] w fun e w' => ∃ v, e = .returned (.tuple #[v, .bool (ofOk V u a size)]) ∧ Sl 1 intC w' v (ofL V u a size) ∧ Below w.heap.size w w' := by
  have hb0 := below_alloc w (.cells #[.slice a1 n1 c1, .int .i64 V.gap, .int .i64 V.radius, .slice a2 n2 c2, .slice a3 n3 c3] 26)
  have hx := Box.fresh w 26 #[.slice a1 n1 c1, .int .i64 V.gap, .int .i64 V.radius, .slice a2 n2 c2, .slice a3 n3 c3]
  have hn := h.s.len
  subst hn
  have HL := hid' (rlongs_any a1 a2 a3 u1 V.seats.length c1 n2 c2 n3 c3 un uc V u a _ (h.next hb0) (hu.next hb0))
  have HK : Hid (ofOk V u a size = decide (1 ≤ size ∧ size ≤ longB V u a)) := rfl
  have HV : Hid (ofL V u a size = if ofOk V u a size = true then rowL a.toNat size.toNat else []) := rfl
  have HMO : Hid (0 < longB V u a → 0 ≤ a ∧ a + longB V u a ≤ 4096) := fun h0 => by
    have := longB_most h0
    have h2 := (may_well this.2.2).few
    omega
  obtain ⟨v0, v1, v2, v3, v4⟩ := hx.five
  clear h hu
  generalize longB V u a = lg at *
  generalize ofOk V u a size = ok at *
  generalize ofL V u a size = L at *
  generalize V.seats.length = n at *
  generalize V.radius = rad at *
  generalize V.gap = gap at *
  by_cases h1 : size < 1
  · obtain rfl : ok = false := by have := HK.out; rw [decide_eq_false (by omega)] at this; exact this
    obtain rfl : L = [] := HV.out
    go_enter Try.func10, Try.ntmps10
    go_wp2
    go_ret2
    exact ⟨_, rfl, .inl ⟨⟨_, _, rfl⟩, rfl⟩, hb0⟩
  · by_cases h2 : lg < size
    · obtain rfl : ok = false := by have := HK.out; rw [decide_eq_false (by omega)] at this; exact this
      obtain rfl : L = [] := HV.out
      go_enter Try.func10, Try.ntmps10
      go_wp2_with fail
      refine HL.out.mono ?_
      rintro e w1 ⟨rfl, hb1⟩
      have HB := hid' (hb0.trans (hb1.mono hb0.size))
      clear hx v0 v1 v2 v3 v4 hb0 hb1 HL
      go_wp2
      go_ret2
      exact ⟨_, rfl, .inl ⟨⟨_, _, rfl⟩, rfl⟩, HB.out⟩
    · obtain rfl : ok = true := by have := HK.out; rw [decide_eq_true (by omega)] at this; exact this
      have hmo := HMO.out (by omega)
      obtain ⟨m, rfl⟩ : ∃ m : Nat, size = (m : Int) := ⟨size.toNat, by omega⟩
      obtain ⟨k, rfl⟩ : ∃ k : Nat, a = (k : Int) := ⟨a.toNat, by omega⟩
      obtain rfl : L = rowL k m := by have := HV.out; simpa using this
      have hkm : k + m ≤ 4096 := by omega
      clear HK HV HMO hmo
      go_enter Try.func10, Try.ntmps10
      go_wp2_with fail
      refine HL.out.mono ?_
      rintro e w1 ⟨rfl, hb1⟩
      have hB1 := hb0.trans (hb1.mono hb0.size)
      clear hx v0 v1 v2 v3 v4 hb0 hb1 HL
      go_wp2_with fail
      refine (rrow_any k m hkm _).mono ?_
      rintro e w2 ⟨v, rfl, hr, hb2⟩
      have HB := hid' (hB1.trans (hb2.mono hB1.size))
      have HS := hid' hr.sl
      clear hr hb2 hB1
      go_wp2
      go_ret2
      exact ⟨_, rfl, HS.out, HB.out⟩
/-- Rows that grow no more, in a row of their own. -/
def RowsG (base : Nat) (W : World) (v : Value) (R : List (List Int)) : Prop := ∃ vs, W.ownsRow base 23 1 v R.length vs ∧ Done W.heap.size W vs R
theorem RowsG.start (base : Nat) (W : World) : RowsG base W (.slice none 0 0) [] := ⟨[], World.ownsRow_nil _ _ _ _, rfl, fun j v l hv => by simp at hv⟩
theorem RowsG.next {base : Nat} {W W' : World} {v : Value} {R : List (List Int)} (h : RowsG base W v R) (hb : Below W.heap.size W W') : RowsG base W' v R := by
  obtain ⟨vs, h1, h2⟩ := h
  exact ⟨vs, row_next h1 hb, h2.mono hb.size fun g hg _ => hb.block g hg⟩
theorem RowsG.rows {base : Nat} {W : World} {v : Value} {R : List (List Int)} (h : RowsG base W v R) : RowsS W v R := by
  obtain ⟨vs, h1, h2⟩ := h
  exact ⟨vs, row_base h1 (Nat.zero_le _), h2.1, fun j a l ha hl => (h2.2 j a l ha hl).1.sl⟩
theorem RowsG.push {base : Nat} {W W' : World} {v v' vx : Value} {R : List (List Int)} {x : List Int} {vs : List Value} (h1 : W.ownsRow base 23 1 v R.length vs) (h2 : Done W.heap.size W vs R) {b : Nat} (h3 : Ints b W vx x)
    (h4 : W'.ownsRow base 23 1 v' (R.length + 1) (vs ++ [vx])) (hg : W.grownBy W' v.ownBlock) : RowsG base W' v' (R ++ [x]) := by
  refine ⟨vs ++ [vx], by rw [List.length_append]; exact h4, ?_⟩
  have hd := h2.push (row_base h3 (Nat.zero_le _)) fun g hg => (h3.lt g hg).2
  exact hd.mono hg.size fun g hlt ⟨cs, hB⟩ => hg.block g hlt (hB.not_row (by decide) h1)
theorem runsL_len {V : Ven} {u : List Bool} (hm : mayB V = true) : (runsL V u).length ≤ V.seats.length := by
  rw [← part_all hm]
  exact (part_len V u V.seats.length (Nat.le_refl _)).1
set_option maxHeartbeats 8000000 in
theorem rruns_any (a1 a2 a3 u1 : Option Addr) (n1 c1 n2 c2 n3 c3 un uc : Nat) (V : Ven) (u : List Bool) (w : World) (h : VenAt w a1 n1 c1 a2 n2 c2 a3 n3 c3 V) (hu : MarksAt w u1 un uc u) :
    Calls Try.prog 18 #[venV a1 n1 c1 V.gap V.radius a2 n2 c2 a3 n3 c3, .slice u1 un uc] w fun e w' => ∃ v, e = .returned v ∧ RowsS w' v (runsL V u) ∧ Below w.heap.size w w' := by
  have hb0 := below_alloc w (.cells #[.slice a1 n1 c1, .int .i64 V.gap, .int .i64 V.radius, .slice a2 n2 c2, .slice a3 n3 c3] 26)
  have hx := Box.fresh w 26 #[.slice a1 n1 c1, .int .i64 V.gap, .int .i64 V.radius, .slice a2 n2 c2, .slice a3 n3 c3]
  have hn := h.s.len
  subst hn
  have hmay := rmay_any a1 a2 a3 V.seats.length c1 n2 c2 n3 c3 V _ (h.next hb0)
  have HLO : Hid (mayB V = true → ∀ W, Below w.heap.size w W → ∀ k : Nat, k < V.seats.length → Calls Try.prog 27 #[venV a1 V.seats.length c1 V.gap V.radius a2 n2 c2 a3 n3 c3, .slice u1 un uc, .int .i64 k] W fun e w' => e = .returned (.int .i64 (longL V.seats V.gap u k : Nat)) ∧ Below W.heap.size W w') := fun hm W hW k hk => by
    have := rlong_any a1 a2 a3 u1 V.seats.length c1 n2 c2 n3 c3 un uc V u k hm W (h.next hW) (hu.next hW)
    unfold longB at this
    rw [if_pos ⟨by omega, hm⟩, Int.toNat_natCast] at this
    exact this
  obtain ⟨v0, v1, v2, v3, v4⟩ := hx.five
  clear h hu
  cases hm : mayB V with
  | false =>
    rw [hm] at hmay
    have HE : Hid (runsL V u = []) := by show runsL V u = []; unfold runsL; rw [hm]; rfl
    generalize runsL V u = ans at *
    obtain rfl := HE.out
    generalize V.seats.length = n at *
    generalize V.radius = rad at *
    generalize V.gap = gap at *
    clear hm
    go_enter Try.func18, Try.ntmps18
    go_wp2_with fail
    refine hmay.mono ?_
    rintro e w1 ⟨rfl, hb1⟩
    have HB := hid' (hb0.trans (hb1.mono hb0.size))
    clear hx v0 v1 v2 v3 v4 hb0 hb1 hmay
    go_wp2
    go_ret
    exact ⟨_, rfl, RowsS.nil _, HB.out⟩
  | true =>
    rw [hm] at hmay
    have HLO2 := hid' (HLO.out hm)
    have hf := (may_well hm).few
    have HST : Hid ([] ++ (cutF (longL V.seats V.gap u) V.seats.length V.seats.length 0).map (fun p => rowL p.1 p.2) = runsL V u) := by
      show _ = _
      unfold runsL cutL; rw [hm]; rfl
    have HAL := hid' (runsL_len (u := u) hm)
    have HLE := hid' (fun a ha => (links V.seats V.gap u).le a ha)
    generalize runsL V u = ans at *
    clear HLO hm
    go_enter Try.func18, Try.ntmps18
    go_wp2_with fail
    refine hmay.mono ?_
    rintro e w1 ⟨rfl, hb1⟩
    have HB1 := hid' (hb0.trans (hb1.mono hb0.size))
    have HX1 := hid' (hx.next hb1)
    clear hx v0 v1 v2 v3 v4 hb0 hb1 hmay
    have HG0 := hid' (RowsG.start w1.heap.size w1)
    go_wp2_with fail
    go_loopw [5, 6, 7] (fun v i _ wr => ∃ (k f : Nat) (R : List (List Int)), k ≤ V.seats.length ∧ V.seats.length - k ≤ f ∧ i = .int .i64 k ∧ Hid (R ++ (cutF (longL V.seats V.gap u) V.seats.length f k).map (fun p => rowL p.1 p.2) = ans) ∧ Hid (RowsG w1.heap.size wr v R) ∧ Hid (Below w1.heap.size w1 wr)) (fun _ i _ _ => V.seats.length - (intOf i).toNat)
    case atStart => exact ⟨0, _, [], Nat.zero_le _, by omega, rfl, HST, HG0, Below.refl _ _⟩
    case round =>
      clear HG0 HST
      obtain ⟨k, f, R, hk, hkf, rfl, HC, HGR, HBR⟩ := hrel
      obtain ⟨v0, v1, v2, v3, v4⟩ := (HX1.out.next HBR.out).five
      by_cases hlt : k < V.seats.length
      · have hltz : (k : Int) < (V.seats.length : Int) := by omega
        have HRK := hid' (HLO2.out wr (HB1.out.trans (HBR.out.mono HB1.out.size)) k hlt)
        obtain ⟨f', rfl⟩ : ∃ f', f = f' + 1 := ⟨f - 1, by omega⟩
        have hkl := HLE.out k hlt
        have HC1 : Hid (R ++ (if longL V.seats V.gap u k = 0 then cutF (longL V.seats V.gap u) V.seats.length f' (k + 1) else (k, longL V.seats V.gap u k) :: cutF (longL V.seats V.gap u) V.seats.length f' (k + longL V.seats V.gap u k)).map (fun p => rowL p.1 p.2) = ans) := by
          show _ = _
          have := HC.out
          unfold cutF at this
          rw [if_pos hlt] at this
          exact this
        have HRL : Hid (R.length + (if longL V.seats V.gap u k = 0 then 0 else 1) ≤ V.seats.length) := by
          show _ ≤ _
          have h1 := HAL.out
          rw [← HC1.out, List.length_append, List.length_map] at h1
          split
          · omega
          · rename_i h0
            rw [if_neg h0, List.length_cons] at h1
            omega
        clear HC
        generalize hm : longL V.seats V.gap u k = m at HRK hkl HC1 HRL
        clear hm
        go_wp2_with fail
        refine HRK.out.mono ?_
        rintro e W2 ⟨rfl, hb2⟩
        have HGR2 := hid' (HGR.out.next hb2)
        have HBR2 := hid' (HBR.out.trans (hb2.mono HBR.out.size))
        clear v0 v1 v2 v3 v4 hb2 HRK HGR HBR
        by_cases h0 : m = 0
        · subst h0
          have HC2 : Hid (R ++ (cutF (longL V.seats V.gap u) V.seats.length f' (k + 1)).map (fun p => rowL p.1 p.2) = ans) := HC1.out
          clear HC1 HRL
          go_wp2_with fail
          exact ⟨⟨k + 1, f', R, by omega, by omega, by go_num, HC2, HGR2, HBR2⟩, by simp [intOf]; omega⟩
        · have hmz : (0 : Int) < (m : Int) := by omega
          have HC2 : Hid ((R ++ [rowL k m]) ++ (cutF (longL V.seats V.gap u) V.seats.length f' (k + m)).map (fun p => rowL p.1 p.2) = ans) := by
            show _ = _
            have := HC1.out
            rw [if_neg h0, List.map_cons] at this
            rw [List.append_assoc]; exact this
          have hrl : R.length + 1 ≤ 4096 := by have := HRL.out; rw [if_neg h0] at this; omega
          clear HC1 HRL
          go_wp2_with fail
          refine (rrow_any k m (by omega) _).mono ?_
          rintro e W3 ⟨vx, rfl, hrow, hb3⟩
          obtain ⟨vs, hv1, hv2⟩ := HGR2.out.next hb3
          have HBR3 := hid' (HBR2.out.trans (hb3.mono HBR2.out.size))
          clear HGR2 HBR2
          obtain ⟨xa, xc, rfl⟩ := row_slice hrow
          obtain ⟨av, cv, rfl⟩ := row_slice hv1
          rw [rowL_len] at *
          have HV1 := hid' (row_next hv1 (below_alloc W3 (.cells #[.slice xa m xc] 23)))
          have HV2 := hid' (hv2.mono (bl' := (W3.alloc (.cells #[.slice xa m xc] 23)).heap.size) (W' := W3.alloc (.cells #[.slice xa m xc] 23)) (by simp) fun g hg _ => (below_alloc W3 (.cells #[.slice xa m xc] 23)).block g hg)
          have HV3 : Hid (Ints W2.heap.size (W3.alloc (.cells #[.slice xa m xc] 23)) (.slice xa m xc) (rowL k m)) := Ints.next hrow (below_alloc W3 (.cells #[.slice xa m xc] 23))
          have hsz : w1.heap.size ≤ (W3.alloc (.cells #[.slice xa m xc] 23)).heap.size := by have := HBR3.out.size; simp; omega
          have HB4 := hid' (HBR3.out.alloc HBR3.out.size (.cells #[.slice xa m xc] 23))
          clear hrow hv1 hv2 hb3 HBR3
          obtain ⟨i1, hi1, hy0, hy1, hy2⟩ := info23
          go_wp2_with (at_builtin; refine wpList_append_own _ rfl _ _ 36 rfl w1.heap.size 23 i1 (.slice none 0 0) 1 24 Try.underlying36 hi1 hy0 hy1 hy2 rfl (by omega) _ _ _ rfl HV1.out ⟨W3.heap.size, 0, none⟩ 1 1 [.slice xa m xc] rfl ?qd1 ?qd2 ?qd3 ?qd4 ?qd5 ?qd6 ?_)
          case qd1 => rfl
          case qd2 =>
            intro t z ht
            rw [Addr.add_lit, Nat.zero_add, World.cell?_alloc_at _ _ _ _ rfl]
            show ([Value.slice xa m xc] : List Value).toArray[t]? = some z
            rw [List.getElem?_toArray]; exact ht
          case qd3 => intro z hz; simp at hz; subst hz; rfl
          case qd4 => unfold maxLen; omega
          case qd5 => omega
          case qd6 => exact hsz
          intro v6 w6 hown6 hgr6 _
          have HB6 := hid' (HB4.out.grown hgr6 hsz (fun t ht => (HV1.out.lt t ht).1))
          have HG6 := hid' (RowsG.push HV1.out HV2.out HV3.out hown6 hgr6)
          clear hown6 hgr6 HV1 HV2 HV3 hsz HB4 hrl
          go_wp2_with fail
          exact ⟨⟨k + m, f', R ++ [rowL k m], by omega, by omega, by go_num, HC2, HG6, HB6⟩, by simp [intOf]; omega⟩
      · have hltz : ¬ (k : Int) < (V.seats.length : Int) := by omega
        have HRES : Hid (RowsS wr u5 ans) := by
          have h1 := HGR.out.rows
          have h2 := HC.out
          have h3 : cutF (longL V.seats V.gap u) V.seats.length f k = [] := by
            cases f with
            | zero => rfl
            | succ f => unfold cutF; rw [if_neg hlt]
          rw [h3, List.map_nil, List.append_nil] at h2
          rw [h2] at h1
          exact h1
        have HB := hid' (HB1.out.trans (HBR.out.mono HB1.out.size))
        clear HGR HC
        go_wp2
        go_ret
        exact ⟨_, rfl, HRES.out, HB.out⟩
end Go.Proofs.Ytdodmbfkcandgaa.Rnn
