/- RunOf answers true: its walk. -/
import Derived.Test.YtdodmbfkcandgaaUTold
import Derived.Test.YtdodmbfkcandgaaUSmall
import Derived.Test.YtdodmbfkcandgaaVMakeA
namespace Go.Proofs.Ytdodmbfkcandgaa.Rnn
set_option linter.unusedVariables false
set_option maxRecDepth 100000
open Go.RowKit Go.Shelf
open Go.Proofs.Ytdodmbfkcandgaa.Ven (Seat Pole Ven VenAt venV seatV Box mayB Sl below_alloc IntsAt make_any mod_u64 intC)

set_option maxHeartbeats 8000000 in
theorem of_law (a : Option Addr) (len cap : Nat) (l : List Int) {w0 : World} (h : IntsAt w0 a len cap l) (u1 : Option Addr) (un uc : Nat) (u : List Bool) (hu : MarksAt w0 u1 un uc u) (ka sz : Int) (w : World) (hw : w0 = w := by rfl) :
    Calls Try.prog 5 #[.slice a len cap, .slice u1 un uc, .int .i64 ka, .int .i64 sz] w fun e w' => e = .returned (.bool true) ∧ Below w.heap.size w w' := by
  subst hw
  have hmake := make_any a len cap l 30 (by omega) (by omega) w0 h
  have HU := hid' hu
  clear h hu
  go_enter Try.func5, Try.ntmps5
  go_wp2_with fail
  refine hmake.mono ?_
  rintro e w1 ⟨V, az, cs, ak, ck, ap, cp, row, xx, rfl, hven, hok, hle, hb1⟩
  have hl1 := hok.len
  have hm := hok.may (by omega)
  obtain ⟨j, hj, ej⟩ := mod_u64 ka V.seats.length (by omega)
  obtain ⟨m, hm10, em⟩ := mod_u64 sz 10 (by omega)
  have n0 : ((V.seats.length : Int) == 0) = false := by rw [beq_eq_false_iff_ne]; omega
  have n1 : ¬ (V.seats.length : Int) = 0 := by omega
  have n2 : IntKind.u64.wrap (V.seats.length : Int) = V.seats.length := by
    unfold IntKind.wrap
    simp [IntKind.signed, IntKind.bits]
    omega
  have n3 : IntKind.i64.wrap (j : Int) = j := by rw [IntKind.wrap_i64]; omega
  have n4 : IntKind.i64.wrap (m : Int) = m := by rw [IntKind.wrap_i64]; omega
  have hb2 := below_alloc w1 (.cells #[.slice az V.seats.length cs, .int .i64 V.gap, .int .i64 V.radius, .slice ak V.kills.length ck, .slice ap V.poles.length cp] 26)
  have hx := Box.fresh w1 26 #[.slice az V.seats.length cs, .int .i64 V.gap, .int .i64 V.radius, .slice ak V.kills.length ck, .slice ap V.poles.length cp]
  have HV := hid' (hven.next hb2)
  have HUW := hid' ((HU.out.next hb1).next hb2)
  have HB2 := hid' (hb1.trans (hb2.mono hb1.size))
  have HX := hid' hx
  obtain ⟨v0, v1, v2, v3, v4⟩ := hx.five
  clear hmake hok hven hb1 hb2 hx HU hm
  go_wp2_with fail
  have hof := of_any _ _ _ _ _ _ _ _ _ _ _ _ V u j m _ HV.out HUW.out
  have hj2 : j < V.seats.length := by omega
  have HLW : Hid (∀ W, Below (w1.alloc (.cells #[.slice az V.seats.length cs, .int .i64 V.gap, .int .i64 V.radius, .slice ak V.kills.length ck, .slice ap V.poles.length cp] 26)).heap.size (w1.alloc (.cells #[.slice az V.seats.length cs, .int .i64 V.gap, .int .i64 V.radius, .slice ak V.kills.length ck, .slice ap V.poles.length cp] 26)) W → Calls Try.prog 13 #[venV az V.seats.length cs V.gap V.radius ak V.kills.length ck ap V.poles.length cp, .slice u1 un uc, .int .i64 j] W fun e w' => e = .returned (.int .i64 (longB V u j)) ∧ Below W.heap.size W w') := fun W hW => long_any _ _ _ _ _ _ _ _ _ _ _ _ V u j W (HV.out.next hW) (HUW.out.next hW)
  have HK : Hid (ofOk V u j m = decide (1 ≤ (m : Int) ∧ (m : Int) ≤ longB V u j)) := rfl
  have HVL : Hid (ofL V u j m = if ofOk V u j m = true then rowL j m else []) := by
    show ofL V u j m = _
    unfold ofL; rw [Int.toNat_natCast, Int.toNat_natCast]
  generalize longB V u j = lg at *
  generalize ofOk V u j m = ok at *
  generalize ofL V u j m = L at *
  clear HV HUW ej em n0 n1 n2 n3 n4 hj
  generalize w1.alloc (.cells #[.slice az V.seats.length cs, .int .i64 V.gap, .int .i64 V.radius, .slice ak V.kills.length ck, .slice ap V.poles.length cp] 26) = W at *
  generalize w1.heap.size = B at *
  refine hof.mono ?_
  rintro e w2 ⟨v, rfl, hs, hb3⟩
  obtain ⟨v0, v1, v2, v3, v4⟩ := (HX.out.next hb3).five
  have HB3 := hid' (HB2.out.trans (hb3.mono HB2.out.size))
  have HL2 := hid' (HLW.out w2 hb3)
  clear hof hb3 HLW
  cases ok with
  | true =>
    have hd := of_decide_eq_true HK.out.symm
    obtain rfl : L = rowL j m := HVL.out
    obtain ⟨sb, so, sc, rfl, hs1, hs2⟩ := Sl.num hs (by rw [rowL_len]; omega)
    have HS := hid' hs2
    have HSB := hid' hs1
    rw [rowL_len] at *
    clear hs hs1 hs2 HK HVL
    have d1 : (1 : Int) ≤ (m : Int) := hd.1
    have d2 : (m : Int) ≤ lg := hd.2
    clear hd
    go_wp2_with fail
    refine HL2.out.mono ?_
    rintro e w3 ⟨rfl, hb4⟩
    have HSX : Hid (∀ q (hq : q < (rowL j m).length), w3.cell? ⟨sb, so + q, none⟩ = some (.int .i64 (rowL j m)[q])) := fun q hq => by rw [hb4.cell (p := ⟨sb, so + q, none⟩) HSB.out]; exact HS.out q hq
    have HSBX : Hid (sb < w3.heap.size) := Nat.lt_of_lt_of_le HSB.out hb4.size
    have HB4 := hid' (HB3.out.trans (hb4.mono HB3.out.size))
    clear hb4 v0 v1 v2 v3 v4 HL2 HB3 HS HSB
    have HS := HSX
    have HSB := HSBX
    have HB3 := HB4
    clear HSX HSBX HB4
    go_wp2_with fail
    clear d1 d2
    have hmz : ((m : Int) == (m : Int)) = true := by simp
    go_loopw [14] (fun i wr => ∃ q : Nat, q ≤ m ∧ i = .int .i64 q ∧ Hid (Below w3.heap.size w3 wr)) (fun i _ => m - (intOf i).toNat)
    case atStart => exact ⟨0, Nat.zero_le _, rfl, Below.refl _ _⟩
    case round =>
      obtain ⟨q, hq, rfl, HB⟩ := hrel
      by_cases hlt : q < m
      · have hltz : (q : Int) < (m : Int) := by omega
        have c0 : wr.cell? ⟨sb, so + q, none⟩ = some (.int .i64 ((j : Int) + (q : Int))) := by
          rw [HB.out.cell (p := ⟨sb, so + q, none⟩) HSB.out]
          have := HS.out q (by rw [rowL_len]; exact hlt)
          rw [rowL_at] at this
          exact this
        have hwr : IntKind.i64.wrap ((j : Int) + (q : Int)) = (j : Int) + (q : Int) := by rw [IntKind.wrap_i64] <;> omega
        have hz : (((j : Int) + (q : Int)) != ((j : Int) + (q : Int))) = false := by simp
        go_wp2_with fail
        exact ⟨⟨q + 1, by omega, by go_num, HB⟩, by simp [intOf]; omega⟩
      · have hltz : ¬ (q : Int) < (m : Int) := by omega
        go_wp2_with fail
        refine (told_any _).mono ?_
        rintro e w5 ⟨rfl, hb5⟩
        have HF := hid' (HB3.out.trans ((HB.out.trans (hb5.mono HB.out.size)).mono HB3.out.size))
        clear hb5
        go_wp2
        go_ret
        exact ⟨rfl, HF.out⟩
  | false =>
    obtain rfl : L = [] := HVL.out
    have hd := of_decide_eq_false HK.out.symm
    obtain ⟨sa, sc, rfl, _⟩ := Sl.form hs
    clear hs HK HVL
    by_cases h1 : 1 ≤ m
    · have d1 : (1 : Int) ≤ (m : Int) := by omega
      have d2 : ¬ (m : Int) ≤ lg := fun h => hd ⟨d1, h⟩
      clear hd h1
      go_wp2_with fail
      refine HL2.out.mono ?_
      rintro e w3 ⟨rfl, hb4⟩
      have HB4 := hid' (HB3.out.trans (hb4.mono HB3.out.size))
      clear hb4 v0 v1 v2 v3 v4 HL2 HB3
      have HB3 := HB4
      clear HB4
      go_wp2_with fail
      clear d1 d2
      go_loopw [14] (fun i wr => i = .int .i64 0 ∧ Hid (Below w3.heap.size w3 wr)) (fun _ _ => 0)
      case atStart => exact ⟨rfl, Below.refl _ _⟩
      case round =>
        obtain ⟨rfl, HB⟩ := hrel
        go_wp2_with fail
        refine (told_any _).mono ?_
        rintro e w5 ⟨rfl, hb5⟩
        have HF := hid' (HB3.out.trans ((HB.out.trans (hb5.mono HB.out.size)).mono HB3.out.size))
        clear hb5
        go_wp2
        go_ret
        exact ⟨rfl, HF.out⟩
    · have d1 : ¬ (1 : Int) ≤ (m : Int) := by omega
      obtain rfl : m = 0 := by omega
      clear hd h1 HL2
      go_wp2_with fail
      clear d1 v0 v1 v2 v3 v4
      go_loopw [14] (fun i wr => i = .int .i64 0 ∧ Hid (Below w2.heap.size w2 wr)) (fun _ _ => 0)
      case atStart => exact ⟨rfl, Below.refl _ _⟩
      case round =>
        obtain ⟨rfl, HB⟩ := hrel
        go_wp2_with fail
        refine (told_any _).mono ?_
        rintro e w5 ⟨rfl, hb5⟩
        have HF := hid' (HB3.out.trans ((HB.out.trans (hb5.mono HB.out.size)).mono HB3.out.size))
        clear hb5
        go_wp2
        go_ret
        exact ⟨rfl, HF.out⟩
end Go.Proofs.Ytdodmbfkcandgaa.Rnn
