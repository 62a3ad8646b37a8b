/- PrintMaps answers true: its walk. -/
import Derived.Test.YtpkjhlcolgoknaaDoorQTold
import Derived.Test.YtpkjhlcolgoknaaDoorQMapP
import Derived.Test.YtpkjhlcolgoknaaDoorVMakeA
namespace Go.Proofs.YtpkjhlcolgoknaaDoor.Prn
set_option linter.unusedVariables false
set_option maxRecDepth 100000
open Go.RowKit Go.Shelf
open Go.Proofs.YtpkjhlcolgoknaaDoor.Ven (Seat Pole Ven VenAt venV Box mayB mixed SeatAt below_alloc BelowOf wp_region_quiet_below Calls.below_of Made MkOK IntsAt make_any)

theorem bget (l : List UInt8) (b : Nat) (h : b < l.length) : (⟨l.toArray⟩ : ByteArray)[b]'h = l[b] := rfl
theorem hid' {p : Prop} (h : p) : Hid p := h
attribute [local go_sem] bapp bget
theorem ints_at_of {w : World} {a : Option Addr} {len cap : Nat} {zs : List Int} (h : IsRow .i64 w a len cap zs) : IntsAt w a len cap (zs.take len) := by
  obtain ⟨h1, h2, h3⟩ := h.own
  refine ⟨h1, h2, ?_⟩
  rcases h3 with h3 | ⟨b, off, e, hb, hc⟩
  · exact .inl h3
  · refine .inr ⟨b, off, e, hb, fun i hi j u hu => ?_⟩
    cases j with
    | zero =>
      have e1 : (zs.take len)[i] = (zs.take len)[i] := rfl
      have := hc i hi
      simp only [Ven.intC, List.getElem?_cons_zero, Option.some.injEq] at hu
      rw [← hu, Nat.mul_one, Nat.add_zero]; exact this
    | succ j => simp [Ven.intC] at hu
/-- What a byte that may be tells. -/
theorem step_of {own : List Int} {c : UInt8} {r : List UInt8} {s fin : MSt} (h : runM own (c :: r) s = some fin) : ∃ s', stepM own s c = some s' ∧ runM own r s' = some fin := by
  rw [runM_cons] at h
  cases hs : stepM own s c with
  | none => rw [hs] at h; cases h
  | some s' => rw [hs] at h; exact ⟨s', rfl, h⟩
theorem step_sign {own : List Int} {c : UInt8} {s s' : MSt} (h : stepM own s c = some s') (h1 : ¬ c = 10) (h2 : ¬ c = 32) (h3 : s.inn = true) : ¬ ((c = 35 ∧ own.getD s.signs 0 ≤ 0) ∨ (c = 45 ∧ 0 ≤ own.getD s.signs 0)) ∧ s' = { s with signs := s.signs + 1, killed := if c = 120 then s.killed + 1 else s.killed } := by
  unfold stepM at h
  rw [if_neg h1, if_neg h2, if_neg (by rw [h3]; decide)] at h
  split at h
  · cases h
  · rename_i hn
    injection h with h
    exact ⟨hn, h.symm⟩
theorem u8_ne {c d : UInt8} (h : ¬ c = d) : ¬ (c.toNat : Int) = (d.toNat : Int) := fun e => h (UInt8.toNat_inj.1 (by omega))
set_option maxHeartbeats 8000000 in
theorem maps_law {w : World} (al : Option Addr) (len cap : Nat) (zs : List Int) (hz : IsRow .i64 w al len cap zs) (ao : Option Addr) (lo co : Nat) (ys : List Int) (hy : IsRow .i64 w ao lo co ys) (w1 : World) (hp1 : Pow w1) (hw : w = w1 := by rfl) :
    Calls Tryd.prog 4 #[.slice al len cap, .slice ao lo co] w1 fun e w' => e = .returned (.bool true) ∧ Below w1.heap.size w1 w' := by
  subst hw
  have hp := hp1
  clear hp1
  have hmk : Calls Tryd.prog 14 #[.slice al len cap, .int .i64 30] w fun e w' => Made w 30 e w' := make_any al len cap _ 30 (by decide) (by decide) w (ints_at_of hz)
  have hO := hy.own
  generalize ys.take lo = own at hO
  have HO : Hid (Own w ao lo own) := hO
  have HP : Hid (Pow w) := hp
  clear hz hy hO hp
  go_enter Tryd.func4, Tryd.ntmps4
  go_wp2_with fail
  refine hmk.mono ?_
  clear hmk
  rintro e w2 ⟨V, az, cs, ak, ck, ap, cp, row, x, rfl, hv, hok, h30, hb2⟩
  have HB2 : Hid (Below w.heap.size w w2) := hb2
  have hm := hok.may (by omega)
  have hn1 := hok.len
  obtain ⟨fin, hfin⟩ : ∃ fin : MSt, fin = ⟨rowsTo V.seats V.seats.length, V.seats.length, V.kills.length, false⟩ := ⟨_, rfl⟩
  have hrun := map_tells V own hok.len (fun s hs => by have := hok.ok s hs; unfold Ven.seatB Ven.rowB at this; simp only [Bool.and_eq_true, decide_eq_true_eq] at this; exact this.1.1.1) (fun s hs => by have := hok.ok s hs; unfold Ven.seatB Ven.kindB at this; simp only [Bool.and_eq_true, decide_eq_true_eq] at this; omega) hok.kr hok.kl
  rw [← hfin] at hrun
  have hmap : ∀ W, Below w2.heap.size w2 W → Calls Tryd.prog 12 #[.agg #[.slice az V.seats.length cs, .int .i64 V.gap, .int .i64 V.radius, .slice ak V.kills.length ck, .slice ap V.poles.length cp], .slice ao lo co] W fun e w' => e = .returned (.string ⟨(mapL V own).toArray⟩) ∧ Below W.heap.size W w' := fun W hW => map_yes az ak ap _ cs _ ck _ cp V ao lo co own W (hv.next hW) hm ((HP.out.next HB2.out).next hW) ((HO.out.next HB2.out).next hW)
  have HV : Hid (VenAt w2 az V.seats.length cs ak V.kills.length ck ap V.poles.length cp V) := hv
  have HMM : Hid ((mapL V own).length ≤ 1048576) := by
    have h1 := mapTo_len V own (may_v hm) _ (Nat.le_refl _)
    have h2 := (may_v hm).n2
    show (mapTo V own V.seats.length ++ [10]).length ≤ 1048576
    rw [List.length_append, List.length_singleton]; omega
  clear hb2 hok hm hv
  generalize mapL V own = M at hrun hmap HMM
  have HRUN : Hid (runM own M ⟨0, 0, 0, false⟩ = some fin) := hrun
  have HMAP := hid' hmap
  clear hrun hmap
  go_wp2_with fail
  have HK3 : Hid (Below w2.heap.size w2 (w2.alloc (.cells #[.slice az V.seats.length cs, .int .i64 V.gap, .int .i64 V.radius, .slice ak V.kills.length ck, .slice ap V.poles.length cp] 26))) := below_alloc w2 _
  have HX3 : Hid (Box (w2.alloc (.cells #[.slice az V.seats.length cs, .int .i64 V.gap, .int .i64 V.radius, .slice ak V.kills.length ck, .slice ap V.poles.length cp] 26)) w2.heap.size 26 #[.slice az V.seats.length cs, .int .i64 V.gap, .int .i64 V.radius, .slice ak V.kills.length ck, .slice ap V.poles.length cp]) := Box.fresh w2 _ _
  generalize w2.alloc (.cells #[.slice az V.seats.length cs, .int .i64 V.gap, .int .i64 V.radius, .slice ak V.kills.length ck, .slice ap V.poles.length cp] 26) = w3 at HK3 HX3 ⊢
  generalize hq0 : w2.heap.size = q0 at HX3 ⊢
  clear hq0
  refine (HMAP.out w3 HK3.out).mono ?_
  rintro e w4 ⟨rfl, hb4⟩
  have HK4 : Hid (Below w2.heap.size w2 w4) := HK3.out.trans (hb4.mono HK3.out.size)
  have HB4 : Hid (Below w.heap.size w w4) := HB2.out.trans (HK4.out.mono HB2.out.size)
  have HX4 : Hid (Box w4 q0 26 #[.slice az V.seats.length cs, .int .i64 V.gap, .int .i64 V.radius, .slice ak V.kills.length ck, .slice ap V.poles.length cp]) := HX3.out.next hb4
  have HO4 : Hid (Own w4 ao lo own) := HO.out.next HB4.out
  have hM := HMM.out
  clear hb4 HK3 HX3 HMAP
  go_wp2_with fail
  go_loop [7, 8, 9, 10, 11, 12] (fun s7 s8 s9 s10 s11 s12 => ∃ (k : Nat) (st : MSt), k ≤ M.length ∧ s12 = .int .i64 k ∧ s7 = .int .i64 st.rows ∧ s8 = .int .i64 st.signs ∧ s9 = .int .i64 st.killed ∧ s10 = .int .i64 st.signs ∧ s11 = .bool st.inn ∧ st.rows ≤ k ∧ st.signs ≤ k ∧ st.killed ≤ k ∧ Hid (runM own (M.drop k) st = some fin)) (fun _ _ _ _ _ s12 => M.length - (intOf s12).toNat)
  case atStart => exact ⟨0, ⟨0, 0, 0, false⟩, Nat.zero_le _, rfl, rfl, rfl, rfl, rfl, rfl, Nat.le_refl _, Nat.le_refl _, Nat.le_refl _, HRUN⟩
  case round =>
    obtain ⟨k, ⟨R, G, D, I⟩, hk, rfl, rfl, rfl, rfl, rfl, rfl, hR, hG, hD, HS⟩ := hrel
    simp only at hR hG hD
    clear HRUN
    by_cases hlt : k < M.length
    · have hltz : (k : Int) < (M.length : Int) := by omega
      have hs := HS.out
      rw [List.drop_eq_getElem_cons hlt] at hs
      obtain ⟨st', hst, hrun⟩ := step_of hs
      have HRUN2 : Hid (runM own (M.drop (k + 1)) st' = some fin) := hrun
      have HST : Hid (stepM own ⟨R, G, D, I⟩ M[k] = some st') := hst
      clear hs hrun hst HS
      by_cases h1 : M[k] = 10
      · have g1 : (M[k].toNat : Int) = 10 := by rw [h1]; rfl
        have e1 : st' = ⟨R + 1, G, D, false⟩ := by
          have := HST.out; unfold stepM at this; rw [if_pos h1] at this; injection this with this; exact this.symm
        subst e1
        clear HST
        go_wp2
        exact ⟨⟨k + 1, ⟨R + 1, G, D, false⟩, by omega, by go_num, by go_num, by go_num, by go_num, by go_num, rfl, by simp only; omega, by simp only; omega, by simp only; omega, HRUN2⟩, by simp [intOf]; omega⟩
      have g1 : ¬ (M[k].toNat : Int) = 10 := u8_ne h1
      by_cases h2 : M[k] = 32
      · have g2 : (M[k].toNat : Int) = 32 := by rw [h2]; rfl
        have e1 : st' = ⟨R, G, D, true⟩ := by
          have := HST.out; unfold stepM at this; rw [if_neg h1, if_pos h2] at this; injection this with this; exact this.symm
        subst e1
        clear HST g1
        go_wp2
        exact ⟨⟨k + 1, ⟨R, G, D, true⟩, by omega, by go_num, by go_num, by go_num, by go_num, by go_num, rfl, by simp only; omega, by simp only; omega, by simp only; omega, HRUN2⟩, by simp [intOf]; omega⟩
      have g2 : ¬ (M[k].toNat : Int) = 32 := u8_ne h2
      cases I
      · have e1 : st' = ⟨R, G, D, false⟩ := by
          have := HST.out; unfold stepM at this; rw [if_neg h1, if_neg h2, if_pos rfl] at this; injection this with this; exact this.symm
        subst e1
        clear HST
        go_wp2
        exact ⟨⟨k + 1, ⟨R, G, D, false⟩, by omega, by go_num, by go_num, by go_num, by go_num, by go_num, rfl, by simp only; omega, by simp only; omega, by simp only; omega, HRUN2⟩, by simp [intOf]; omega⟩
      obtain ⟨hno, e1⟩ := step_sign HST.out h1 h2 rfl
      subst e1
      clear HST
      obtain ⟨hol, hom, hoc⟩ := HO4.out
      subst hol
      unfold maxLen at hom
      by_cases hat : G < own.length
      · have hatz : (G : Int) < (own.length : Int) := by omega
        obtain ⟨ob, oo, rfl, hob, hoc'⟩ : ∃ b off, ao = some ⟨b, off, none⟩ ∧ b < w4.heap.size ∧ ∀ i (h : i < own.length), w4.cell? ⟨b, off + i, none⟩ = some (.int .i64 own[i]) := by
          rcases hoc with h | h
          · omega
          · exact h
        have oc := hoc' G hat
        have HE : own.getD G 0 = own[G] := by simp [List.getD, hat]
        simp only [HE] at hno
        clear HE hoc hoc'
        generalize own[G] = z at oc hno
        by_cases h3 : M[k] = 120
        · have g3 : (M[k].toNat : Int) = 120 := by rw [h3]; rfl
          have g4 : ¬ (M[k].toNat : Int) = 35 := by omega
          have g5 : ¬ (M[k].toNat : Int) = 45 := by omega
          rw [if_pos h3] at HRUN2
          clear hno h1 h2 h3
          go_wp2
          exact ⟨⟨k + 1, ⟨R, G + 1, D + 1, true⟩, by omega, by go_num, by go_num, by go_num, by go_num, by go_num, rfl, by simp only; omega, by simp only; omega, by simp only; omega, HRUN2⟩, by simp [intOf]; omega⟩
        have g3 : ¬ (M[k].toNat : Int) = 120 := u8_ne h3
        rw [if_neg h3] at HRUN2
        by_cases h4 : M[k] = 35
        · have g4 : (M[k].toNat : Int) = 35 := by rw [h4]; rfl
          have g5 : ¬ (M[k].toNat : Int) = 45 := by omega
          have hz0 : ¬ z ≤ 0 := fun hc => hno (.inl ⟨h4, hc⟩)
          clear hno h1 h2 h3 h4
          go_wp2
          exact ⟨⟨k + 1, ⟨R, G + 1, D, true⟩, by omega, by go_num, by go_num, by go_num, by go_num, by go_num, rfl, by simp only; omega, by simp only; omega, by simp only; omega, HRUN2⟩, by simp [intOf]; omega⟩
        have g4 : ¬ (M[k].toNat : Int) = 35 := u8_ne h4
        by_cases h5 : M[k] = 45
        · have g5 : (M[k].toNat : Int) = 45 := by rw [h5]; rfl
          have hz0 : ¬ 0 ≤ z := fun hc => hno (.inr ⟨h5, hc⟩)
          clear hno h1 h2 h3 h4 h5
          go_wp2
          exact ⟨⟨k + 1, ⟨R, G + 1, D, true⟩, by omega, by go_num, by go_num, by go_num, by go_num, by go_num, rfl, by simp only; omega, by simp only; omega, by simp only; omega, HRUN2⟩, by simp [intOf]; omega⟩
        have g5 : ¬ (M[k].toNat : Int) = 45 := u8_ne h5
        clear hno h1 h2 h3
        go_wp2
        exact ⟨⟨k + 1, ⟨R, G + 1, D, true⟩, by omega, by go_num, by go_num, by go_num, by go_num, by go_num, rfl, by simp only; omega, by simp only; omega, by simp only; omega, HRUN2⟩, by simp [intOf]; omega⟩
      · have hatz : ¬ (G : Int) < (own.length : Int) := by omega
        have HE : own.getD G 0 = 0 := by simp [List.getD, List.getElem?_eq_none (Nat.le_of_not_lt hat)]
        simp only [HE] at hno
        clear HE hoc
        by_cases h3 : M[k] = 120
        · have g3 : (M[k].toNat : Int) = 120 := by rw [h3]; rfl
          have g4 : ¬ (M[k].toNat : Int) = 35 := by omega
          have g5 : ¬ (M[k].toNat : Int) = 45 := by omega
          rw [if_pos h3] at HRUN2
          clear hno h1 h2 h3
          go_wp2
          exact ⟨⟨k + 1, ⟨R, G + 1, D + 1, true⟩, by omega, by go_num, by go_num, by go_num, by go_num, by go_num, rfl, by simp only; omega, by simp only; omega, by simp only; omega, HRUN2⟩, by simp [intOf]; omega⟩
        have g3 : ¬ (M[k].toNat : Int) = 120 := u8_ne h3
        rw [if_neg h3] at HRUN2
        have g4 : ¬ (M[k].toNat : Int) = 35 := u8_ne (fun hc => hno (.inl ⟨hc, Int.le_refl _⟩))
        have g5 : ¬ (M[k].toNat : Int) = 45 := u8_ne (fun hc => hno (.inr ⟨hc, Int.le_refl _⟩))
        clear hno h1 h2 h3
        go_wp2
        exact ⟨⟨k + 1, ⟨R, G + 1, D, true⟩, by omega, by go_num, by go_num, by go_num, by go_num, by go_num, rfl, by simp only; omega, by simp only; omega, by simp only; omega, HRUN2⟩, by simp [intOf]; omega⟩
    · have hltz : ¬ (k : Int) < (M.length : Int) := by omega
      have hs := HS.out
      rw [List.drop_of_length_le (by omega)] at hs
      have hfin2 : fin = ⟨R, G, D, I⟩ := (Option.some.inj hs).symm
      rw [hfin] at hfin2
      injection hfin2 with f1 f2 f3 f4
      subst f1 f2 f3 f4
      clear hs HS hR hG hD
      obtain ⟨sb, so, rfl, _, _⟩ := sl_addr HV.out.s (by omega)
      have HXW : Hid (∀ W, Below w4.heap.size w4 W → Box W q0 26 #[.slice (some ⟨sb, so, none⟩) V.seats.length cs, .int .i64 V.gap, .int .i64 V.radius, .slice ak V.kills.length ck, .slice ap V.poles.length cp]) := fun W hW => HX4.out.next hW
      have HAW : Hid (∀ W, Below w4.heap.size w4 W → VenAt W (some ⟨sb, so, none⟩) V.seats.length cs ak V.kills.length ck ap V.poles.length cp V) := fun W hW => (HV.out.next HK4.out).next hW
      clear HV HK4 HB2 HX4 HO4 HO
      have h30z : (V.seats.length : Int) ≤ 30 := by omega
      go_wp2_with fail
      clear hk hlt hltz HMM hM
      go_loopw [14, 15] (fun s14 s15 wr => ∃ k : Nat, k ≤ V.seats.length ∧ s15 = .int .i64 k ∧ s14 = .int .i64 (rowsTo V.seats k) ∧ Hid (Below w4.heap.size w4 wr)) (fun _ s15 _ => V.seats.length - (intOf s15).toNat)
      case atStart => exact ⟨0, Nat.zero_le _, rfl, rfl, Below.refl _ _⟩
      case round =>
        obtain ⟨k, hk, rfl, rfl, HS⟩ := hrel
        have hrk := rowsTo_le V.seats k
        obtain ⟨v0, v1, v2, v3, v4⟩ := (HXW.out _ HS.out).five
        have vl := (HXW.out _ HS.out).lt
        by_cases hlt : k < V.seats.length
        · have hltz : (k : Int) < (V.seats.length : Int) := by omega
          have HC : Hid (Ven.Cells 4 Ven.seatC wr sb so V.seats) := (HAW.out _ HS.out).s.some_cells (by omega)
          have c0 := (HC.out.seat k hlt).c0
          have sl := (HC.out.seat k hlt).lt
          have h3 : k = 0 ∨ ∃ j, k = j + 1 := by cases k with
            | zero => exact .inl rfl
            | succ j => exact .inr ⟨j, rfl⟩
          rcases h3 with h0 | ⟨j, h0⟩
          · subst h0
            have HN : Hid (rowsTo V.seats (0 + 1) = rowsTo V.seats 0 + 1) := rowsTo_hit (.inl rfl)
            generalize rowsTo V.seats 0 = N at HN hrk ⊢
            simp only [Nat.zero_mul, Nat.add_zero] at c0
            go_wp2_with fail
            go_quiet ((fail))
            have HSF : Hid (Below w4.heap.size w4 (wr.drewN nq)) := HS.out.trans ((drewN_below wr nq).mono HS.out.size)
            go_wp2
            refine ⟨⟨0 + 1, by omega, by go_num, by rw [HN.out]; go_num, HSF⟩, by simp [intOf]; omega⟩
          · subst h0
            have hjl : j < V.seats.length := by omega
            have p0 := (HC.out.seat j hjl).c0
            have hj0 : (0 : Int) < (j : Int) + 1 := by omega
            have hjz : ((j : Int) + 1 == 0) = false := by simp; omega
            have hjn : (j : Int) + 1 < (V.seats.length : Int) := by omega
            have hg1 : V.seats[j + 1]! = V.seats[j + 1] := getElem!_pos V.seats (j + 1) hlt
            have hg2 : V.seats[j + 1 - 1]! = V.seats[j] := getElem!_pos V.seats j hjl
            by_cases hrr : V.seats[j + 1].row = V.seats[j].row
            · have HN : Hid (rowsTo V.seats (j + 1 + 1) = rowsTo V.seats (j + 1)) := rowsTo_miss (by omega) (by rw [hg1, hg2]; exact hrr)
              clear hg1 hg2
              generalize rowsTo V.seats (j + 1) = N at HN hrk ⊢
              rw [hrr] at c0
              generalize V.seats[j].row = pr at c0 p0
              clear hrr
              go_wp2_with fail
              go_quiet ((fail))
              have HSF : Hid (Below w4.heap.size w4 (wr.drewN nq)) := HS.out.trans ((drewN_below wr nq).mono HS.out.size)
              go_wp2
              refine ⟨⟨j + 1 + 1, by omega, by go_num, by rw [HN.out], HSF⟩, by simp [intOf]; omega⟩
            · have HN : Hid (rowsTo V.seats (j + 1 + 1) = rowsTo V.seats (j + 1) + 1) := rowsTo_hit (.inr (by rw [hg1, hg2]; exact hrr))
              clear hg1 hg2
              generalize rowsTo V.seats (j + 1) = N at HN hrk ⊢
              generalize V.seats[j].row = pr at c0 p0 hrr
              generalize V.seats[j + 1].row = r at c0 p0 hrr
              have hre : (r == pr) = false := by simpa using hrr
              go_wp2_with fail
              go_quiet ((fail))
              have HSF : Hid (Below w4.heap.size w4 (wr.drewN nq)) := HS.out.trans ((drewN_below wr nq).mono HS.out.size)
              go_wp2
              refine ⟨⟨j + 1 + 1, by omega, by go_num, by rw [HN.out]; go_num, HSF⟩, by simp [intOf]; omega⟩
        · have hltz : ¬ (k : Int) < (V.seats.length : Int) := by omega
          obtain rfl : k = V.seats.length := by omega
          generalize rowsTo V.seats V.seats.length = N at hrk ⊢
          have HBr : Hid (Below w.heap.size w wr) := HB4.out.trans (HS.out.mono HB4.out.size)
          go_wp2_with fail
          refine (told_any wr (HP.out.next HBr.out)).mono ?_
          rintro e w6 ⟨rfl, hb6⟩
          have HB6 : Hid (Below w.heap.size w w6) := HBr.out.trans (hb6.mono HBr.out.size)
          have HS6 : Hid (Below w4.heap.size w4 w6) := HS.out.trans (hb6.mono HS.out.size)
          clear hb6 HBr v0 v1 v2 v3 v4 vl HS
          obtain ⟨v0, v1, v2, v3, v4⟩ := (HXW.out _ HS6.out).five
          have vl := (HXW.out _ HS6.out).lt
          go_wp2
          go_ret
          exact ⟨rfl, HB6.out⟩
end Go.Proofs.YtpkjhlcolgoknaaDoor.Prn
