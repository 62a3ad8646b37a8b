/- run.Long by its contract. -/
import Derived.Test.YtdodmbfkcandgaaUNexts
namespace Go.Proofs.Ytdodmbfkcandgaa.Rnn
set_option linter.unusedVariables false
set_option maxRecDepth 100000
open Go.RowKit Go.Shelf
open Go.Proofs.Ytdodmbfkcandgaa.Ven (Seat Pole Ven VenAt venV seatV Box mayB Sl SeatAt below_alloc ret_bool ret_int may_any)

theorem role_two {V : Ven} {u : List Bool} {c : Nat} (hc : c < V.seats.length) (hu : isU u c = true) {a : Int} (ha : a = (c : Int) + 1) : roleB V u a = if goB V.seats V.gap u c = true then 2 else if usB V.seats.length u a = true then 1 else 0 := by
  subst ha
  unfold roleB
  rw [show (c : Int) + 1 - 1 = (c : Int) by omega, usB_nat u hc, hu, Bool.true_and, Int.toNat_natCast]
  by_cases h1 : c + 1 < V.seats.length
  · have e : usB V.seats.length u ((c : Int) + 1) = isU u (c + 1) := by
      have := usB_nat (n := V.seats.length) u h1
      rw [← this]; rfl
    rw [e]
    unfold goB
    cases isU u (c + 1) <;> cases nextL V.seats V.gap c <;> rfl
  · have e : usB V.seats.length u ((c : Int) + 1) = false := usB_off u (by omega)
    have e2 : nextL V.seats V.gap c = false := by unfold nextL; rw [decide_eq_false h1]; rfl
    unfold goB
    rw [e, e2]; rfl
theorem longB_no {V : Ven} {u : List Bool} {a : Int} (h : usB V.seats.length u a = false) : longB V u a = 0 := by
  unfold longB
  by_cases h0 : 0 ≤ a ∧ mayB V = true
  · rw [if_pos h0]
    unfold longL
    by_cases h1 : a < (V.seats.length : Int)
    · unfold usB at h
      rw [decide_eq_true (show 0 ≤ a ∧ a < (V.seats.length : Int) by omega), Bool.true_and] at h
      rw [if_neg (by rw [h]; simp)]; rfl
    · rw [if_neg (by omega)]; rfl
  · rw [if_neg h0]
theorem longB_not {V : Ven} {u : List Bool} {a : Int} (h : mayB V = false) : longB V u a = 0 := by
  unfold longB; rw [h]; simp
theorem longB_yes {V : Ven} {u : List Bool} {k : Nat} (hm : mayB V = true) (hk : k < V.seats.length) (hu : isU u k = true) : longB V u k = (runN (goB V.seats V.gap u) (V.seats.length - k) k : Nat) := by
  unfold longB longL
  rw [if_pos ⟨by omega, hm⟩, Int.toNat_natCast, if_pos ⟨hk, hu⟩]
theorem longB_zero {V : Ven} {u : List Bool} {a : Int} : 0 ≤ longB V u a := by
  unfold longB; split <;> omega
theorem longB_most {V : Ven} {u : List Bool} {a : Int} (h : 0 < longB V u a) : 0 ≤ a ∧ a + longB V u a ≤ (V.seats.length : Int) ∧ mayB V = true := by
  unfold longB at h ⊢
  split at h
  · rename_i h0
    rw [if_pos h0]
    by_cases h1 : a.toNat < V.seats.length
    · have := (links V.seats V.gap u).le a.toNat h1
      exact ⟨h0.1, by omega, h0.2⟩
    · exfalso
      unfold longL at h
      rw [if_neg (by omega)] at h
      simp at h
  · omega
set_option maxHeartbeats 4000000 in
theorem long_any (a1 a2 a3 u1 : Option Addr) (n1 c1 n2 c2 n3 c3 un uc : Nat) (V : Ven) (u : List Bool) (a : Int) (w : World) (h : VenAt w a1 n1 c1 a2 n2 c2 a3 n3 c3 V) (hu : MarksAt w u1 un uc u) :
    Calls Try.prog 13 #[venV a1 n1 c1 V.gap V.radius a2 n2 c2 a3 n3 c3, .slice u1 un uc, .int .i64 a] w fun e w' => e = .returned (.int .i64 (longB V u a)) ∧ Below w.heap.size w w' := by
  have hb0 := below_alloc w (.cells #[.slice a1 n1 c1, .int .i64 V.gap, .int .i64 V.radius, .slice a2 n2 c2, .slice a3 n3 c3] 26)
  have hx := Box.fresh w 26 #[.slice a1 n1 c1, .int .i64 V.gap, .int .i64 V.radius, .slice a2 n2 c2, .slice a3 n3 c3]
  have hn := h.s.len
  subst hn
  have hmay := may_any a1 a2 a3 V.seats.length c1 n2 c2 n3 c3 V _ (h.next hb0)
  have HRO : Hid (mayB V = true → ∀ W, Below w.heap.size w W → ∀ b : Int, Calls Try.prog 26 #[venV a1 V.seats.length c1 V.gap V.radius a2 n2 c2 a3 n3 c3, .slice u1 un uc, .int .i64 b] W fun e w' => e = .returned (.int .i64 (roleB V u b)) ∧ Below W.heap.size W w') := fun hm W hW b => role_any a1 a2 a3 u1 V.seats.length c1 n2 c2 n3 c3 un uc V u b (may_well hm) W (h.next hW) (hu.next hW)
  obtain ⟨v0, v1, v2, v3, v4⟩ := hx.five
  clear h hu
  cases hm : mayB V with
  | false =>
    rw [hm] at hmay
    have HE : Hid (longB V u a = 0) := longB_not hm
    generalize longB V u a = ans at *
    obtain rfl := HE.out
    generalize V.seats.length = n at *
    generalize V.radius = rad at *
    generalize V.gap = gap at *
    clear hm
    go_enter Try.func13, Try.ntmps13
    go_wp2_with fail
    refine hmay.mono ?_
    rintro e w1 ⟨rfl, hb1⟩
    have HB := hid' (hb0.trans (hb1.mono hb0.size))
    clear hx v0 v1 v2 v3 v4 hb0 hb1 hmay
    go_wp2
    go_ret
    exact ⟨rfl, HB.out⟩
  | true =>
    rw [hm] at hmay
    have HRO2 := hid' (HRO.out hm)
    clear HRO
    have hf := (may_well hm).few
    cases hp : usB V.seats.length u a with
    | false =>
      have HE : Hid (longB V u a = 0) := longB_no hp
      have HR : Hid (∀ W, Below w.heap.size w W → Calls Try.prog 26 #[venV a1 V.seats.length c1 V.gap V.radius a2 n2 c2 a3 n3 c3, .slice u1 un uc, .int .i64 a] W fun e w' => e = .returned (.int .i64 0) ∧ Below W.heap.size W w') := fun W hW => by
        have := HRO2.out W hW a
        unfold roleB at this
        rw [hp] at this; exact this
      generalize longB V u a = ans at *
      obtain rfl := HE.out
      clear HRO2 hp hm hf
      generalize V.seats.length = n at *
      generalize V.radius = rad at *
      generalize V.gap = gap at *
      go_enter Try.func13, Try.ntmps13
      go_wp2_with fail
      refine hmay.mono ?_
      rintro e w1 ⟨rfl, hb1⟩
      have hB1 := hb0.trans (hb1.mono hb0.size)
      have hx1 := hx.next hb1
      clear hx v0 v1 v2 v3 v4 hb0 hb1 hmay
      obtain ⟨v0, v1, v2, v3, v4⟩ := hx1.five
      go_wp2_with fail
      refine (HR.out _ hB1).mono ?_
      rintro e w2 ⟨rfl, hb2⟩
      have HB := hid' (hB1.trans (hb2.mono hB1.size))
      clear hx1 v0 v1 v2 v3 v4 hB1 hb2
      go_wp2
      go_ret
      exact ⟨rfl, HB.out⟩
    | true =>
      obtain ⟨k, rfl, hk⟩ : ∃ k : Nat, a = (k : Int) ∧ k < V.seats.length := ⟨a.toNat, by have := usB_seat hp; omega, by have := usB_seat hp; omega⟩
      have hiu : isU u k = true := by rw [usB_nat u hk] at hp; exact hp
      have HE := hid' (longB_yes hm hk hiu)
      have HR : Hid (∃ r : Int, (r == 0) = false ∧ ∀ W, Below w.heap.size w W → Calls Try.prog 26 #[venV a1 V.seats.length c1 V.gap V.radius a2 n2 c2 a3 n3 c3, .slice u1 un uc, .int .i64 k] W fun e w' => e = .returned (.int .i64 r) ∧ Below W.heap.size W w') :=
        ⟨roleB V u k, by unfold roleB; rw [hp]; rw [if_pos rfl]; split <;> rfl, fun W hW => HRO2.out W hW k⟩
      have HIU := hid' hiu
      generalize longB V u k = ans at *
      obtain ⟨r, hrz, hrc⟩ := HR.out
      have HRC := hid' hrc
      clear hp hm hiu HR hrc
      go_enter Try.func13, Try.ntmps13
      go_wp2_with fail
      refine hmay.mono ?_
      rintro e w1 ⟨rfl, hb1⟩
      have hB1 := hb0.trans (hb1.mono hb0.size)
      have hx1 := hx.next hb1
      clear hx v0 v1 v2 v3 v4 hb0 hb1 hmay
      obtain ⟨v0, v1, v2, v3, v4⟩ := hx1.five
      go_wp2_with fail
      refine (HRC.out _ hB1).mono ?_
      rintro e w2 ⟨rfl, hb2⟩
      have HB2 := hid' (hB1.trans (hb2.mono hB1.size))
      have HX2 := hid' (hx1.next hb2)
      clear hx1 v0 v1 v2 v3 v4 hB1 hb2 HRC
      go_wp2_with fail
      clear hrz
      go_loopw [7] (fun i wr => ∃ j : Nat, 1 ≤ j ∧ k + j ≤ V.seats.length ∧ i = .int .i64 j ∧ Hid (Below w2.heap.size w2 wr) ∧ Hid (∀ q, q + 1 < j → goB V.seats V.gap u (k + q) = true)) (fun i _ => V.seats.length - (intOf i).toNat)
      case atStart => exact ⟨1, Nat.le_refl _, by omega, rfl, Below.refl _ _, fun q hq => absurd hq (by omega)⟩
      case round =>
        obtain ⟨j, hj1, hj2, rfl, HB, HG⟩ := hrel
        obtain ⟨v0, v1, v2, v3, v4⟩ := (HX2.out.next HB.out).five
        have hwr : IntKind.i64.wrap ((k : Int) + (j : Int)) = (k : Int) + (j : Int) := by rw [IntKind.wrap_i64] <;> omega
        have HBW := hid' (HB2.out.trans (HB.out.mono HB2.out.size))
        have HRJ := hid' (HRO2.out wr HBW.out ((k : Int) + (j : Int)))
        have HR2 : Hid (roleB V u ((k : Int) + (j : Int)) = if goB V.seats V.gap u (k + (j - 1)) = true then 2 else if usB V.seats.length u ((k : Int) + (j : Int)) = true then 1 else 0) := by
          refine role_two (c := k + (j - 1)) (by omega) ?_ (by omega)
          rcases Nat.lt_or_ge 1 j with h | h
          · have := HG.out (j - 2) (by omega)
            unfold goB at this
            have := (Bool.and_eq_true_iff.1 this).2
            rwa [show k + (j - 2) + 1 = k + (j - 1) by omega] at this
          · rw [show k + (j - 1) = k by omega]; exact HIU.out
        generalize roleB V u ((k : Int) + (j : Int)) = r2 at *
        go_wp2_with fail
        refine HRJ.out.mono ?_
        rintro e w3 ⟨rfl, hb3⟩
        have HB3 := hid' (HB.out.trans (hb3.mono HB.out.size))
        clear v0 v1 v2 v3 v4 hb3 HRJ HB
        cases hg : goB V.seats V.gap u (k + (j - 1)) with
        | true =>
          have hlt := goB_lt _ hg
          obtain rfl : r2 = 2 := by have := HR2.out; rw [hg] at this; exact this
          have HG2 : Hid (∀ q, q + 1 < j + 1 → goB V.seats V.gap u (k + q) = true) := fun q hq => by
            rcases Nat.lt_or_ge (q + 1) j with h | h
            · exact HG.out q h
            · rw [show q = j - 1 by omega]; exact hg
          clear hg HR2 HG
          go_wp2_with fail
          exact ⟨⟨j + 1, by omega, by omega, by go_num, HB3, HG2⟩, by simp [intOf]; omega⟩
        | false =>
          have hz : (r2 == 2) = false := by
            have := HR2.out
            rw [hg, if_neg (by simp)] at this
            rw [this]; split <;> rfl
          have HF : Hid (ans = (j : Int)) := by
            show ans = _
            rw [HE.out, runN_is _ _ _ (j - 1) (by omega) (fun q hq => HG.out q (by omega)) hg, show j - 1 + 1 = j by omega]
          have HBE := hid' (HB2.out.trans (HB3.out.mono HB2.out.size))
          clear hg HR2 HG
          go_wp2
          go_ret
          exact ⟨ret_int HF.out.symm, HBE.out⟩
end Go.Proofs.Ytdodmbfkcandgaa.Rnn
