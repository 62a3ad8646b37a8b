/- PrintAsks answers true: its walk. -/
import Derived.Test.YtpkjhlcolgoknaaDoorQTold
import Derived.Test.YtpkjhlcolgoknaaDoorQRefS
import Derived.Test.YtpkjhlcolgoknaaDoorQRefP
import Derived.Test.YtpkjhlcolgoknaaDoorQRefM
import Derived.Test.YtpkjhlcolgoknaaDoorQFew
namespace Go.Proofs.YtpkjhlcolgoknaaDoor.Prn
set_option linter.unusedVariables false
set_option maxRecDepth 100000
open Go.RowKit Go.Shelf
open Go.Proofs.YtpkjhlcolgoknaaDoor.Ven (Seat Pole Ven VenAt venV Box mayB mixed SeatAt below_alloc BelowOf wp_region_quiet_below Calls.below_of same_world)

attribute [local go_sem] bapp
/-- What both prints answer. -/
theorem both_print (a1 a2 a3 : Option Addr) (n1 c1 n2 c2 n3 c3 : Nat) (V : Ven) (w : World) (h : VenAt w a1 n1 c1 a2 n2 c2 a3 n3 c3 V) (hp : Pow w) : ∃ (P : List UInt8) (c : Int),
    (∀ W, Below w.heap.size w W → Calls Tryd.prog 8 #[venV a1 n1 c1 V.gap V.radius a2 n2 c2 a3 n3 c3] W fun e w' => e = .returned (.tuple #[.string ⟨P.toArray⟩, .int .i64 c]) ∧ Below W.heap.size W w') ∧
    (∀ W, Below w.heap.size w W → Calls Tryd.prog 9 #[venV a1 n1 c1 V.gap V.radius a2 n2 c2 a3 n3 c3] W fun e w' => e = .returned (.tuple #[.string ⟨P.toArray⟩, .int .i64 c]) ∧ Below W.heap.size W w') := by
  cases hm : mayB V
  · exact ⟨[], 1, fun W hW => venue_no _ _ _ _ _ _ _ _ _ V W (h.next hW) hm, fun W hW => rprint_no _ _ _ _ _ _ _ _ _ V W (h.next hW) hm⟩
  · exact ⟨printL V, 0, fun W hW => venue_yes _ _ _ _ _ _ _ _ _ V W (h.next hW) hm (hp.next hW), fun W hW => rprint_yes _ _ _ _ _ _ _ _ _ V W (h.next hW) hm⟩
/-- What both maps answer. -/
theorem both_map (a1 a2 a3 : Option Addr) (n1 c1 n2 c2 n3 c3 : Nat) (V : Ven) (ao : Option Addr) (len cap : Nat) (own : List Int) (w : World) (h : VenAt w a1 n1 c1 a2 n2 c2 a3 n3 c3 V) (hp : Pow w) (ho : Own w ao len own) : ∃ (P : List UInt8),
    (∀ W, Below w.heap.size w W → Calls Tryd.prog 12 #[venV a1 n1 c1 V.gap V.radius a2 n2 c2 a3 n3 c3, .slice ao len cap] W fun e w' => e = .returned (.string ⟨P.toArray⟩) ∧ Below W.heap.size W w') ∧
    (∀ W, Below w.heap.size w W → Calls Tryd.prog 13 #[venV a1 n1 c1 V.gap V.radius a2 n2 c2 a3 n3 c3, .slice ao len cap] W fun e w' => e = .returned (.string ⟨P.toArray⟩) ∧ Below W.heap.size W w') := by
  cases hm : mayB V
  · exact ⟨[], fun W hW => map_no _ _ _ _ _ _ _ _ _ V _ _ _ W (h.next hW) hm, fun W hW => rmap_no _ _ _ _ _ _ _ _ _ V _ _ _ W (h.next hW) hm⟩
  · exact ⟨mapL V own, fun W hW => map_yes _ _ _ _ _ _ _ _ _ V _ _ _ own W (h.next hW) hm (hp.next hW) (ho.next hW), fun W hW => rmap_yes _ _ _ _ _ _ _ _ _ V _ _ _ own W (h.next hW) hm (ho.next hW)⟩
set_option maxHeartbeats 8000000 in
theorem asks_law {w : World} (a1 a2 a3 : Option Addr) (n1 c1 n2 c2 n3 c3 : Nat) (V : Ven) (h : VenAt w a1 n1 c1 a2 n2 c2 a3 n3 c3 V) (r x y k : Int) (hb : I64 r ∧ I64 x ∧ I64 y)
    (ao : Option Addr) (len cap : Nat) (zs : List Int) (ho : IsRow .i64 w ao len cap zs) (w1 : World) (hp : Pow w1) (hw : w = w1 := by rfl) :
    Calls Tryd.prog 3 #[venV a1 n1 c1 V.gap V.radius a2 n2 c2 a3 n3 c3, .agg #[.int .i64 r, .int .i64 x, .int .i64 y, .int .i64 k], .slice ao len cap] w1 fun e w' => e = .returned (.bool true) ∧ Below w1.heap.size w1 w' := by
  subst hw
  obtain ⟨h0, h1, h2⟩ := hb
  have ho' := ho.own
  obtain ⟨P, c, hV, hR⟩ := both_print a1 a2 a3 n1 c1 n2 c2 n3 c3 V w h hp
  obtain ⟨M, hMv, hMr⟩ := both_map a1 a2 a3 n1 c1 n2 c2 n3 c3 V ao len cap _ w h hp ho'
  have HLEN : Hid (len ≤ maxLen) := ho'.2.1
  have hfew : ∀ W, Below w.heap.size w W → Calls Tryd.prog 6 #[venV a1 n1 c1 V.gap V.radius a2 n2 c2 a3 n3 c3] W fun e w' => e = .returned (.bool (decide (n1 ≤ 40) && (decide (n2 ≤ 40) && decide (n3 ≤ 40)))) ∧ Below W.heap.size W w' := fun W hW => few_any a1 a2 a3 n1 c1 n2 c2 n3 c3 V W (h.next hW)
  generalize (decide (n1 ≤ 40) && (decide (n2 ≤ 40) && decide (n3 ≤ 40))) = fb at hfew
  clear h ho ho'
  generalize V.gap = gap at hV hR hMv hMr hfew ⊢
  generalize V.radius = radius at hV hR hMv hMr hfew ⊢
  have HVV : Hid (∀ W, Below w.heap.size w W → Calls Tryd.prog 8 #[.agg #[.slice a1 n1 c1, .int .i64 gap, .int .i64 radius, .slice a2 n2 c2, .slice a3 n3 c3]] W fun e w' => e = .returned (.tuple #[.string ⟨P.toArray⟩, .int .i64 c]) ∧ Below W.heap.size W w') := hV
  have HRR : Hid (∀ W, Below w.heap.size w W → Calls Tryd.prog 9 #[.agg #[.slice a1 n1 c1, .int .i64 gap, .int .i64 radius, .slice a2 n2 c2, .slice a3 n3 c3]] W fun e w' => e = .returned (.tuple #[.string ⟨P.toArray⟩, .int .i64 c]) ∧ Below W.heap.size W w') := hR
  have HMV : Hid (∀ W, Below w.heap.size w W → Calls Tryd.prog 12 #[.agg #[.slice a1 n1 c1, .int .i64 gap, .int .i64 radius, .slice a2 n2 c2, .slice a3 n3 c3], .slice ao len cap] W fun e w' => e = .returned (.string ⟨M.toArray⟩) ∧ Below W.heap.size W w') := hMv
  have HMR : Hid (∀ W, Below w.heap.size w W → Calls Tryd.prog 13 #[.agg #[.slice a1 n1 c1, .int .i64 gap, .int .i64 radius, .slice a2 n2 c2, .slice a3 n3 c3], .slice ao len cap] W fun e w' => e = .returned (.string ⟨M.toArray⟩) ∧ Below W.heap.size W w') := hMr
  have HFF : Hid (∀ W, Below w.heap.size w W → Calls Tryd.prog 6 #[.agg #[.slice a1 n1 c1, .int .i64 gap, .int .i64 radius, .slice a2 n2 c2, .slice a3 n3 c3]] W fun e w' => e = .returned (.bool fb) ∧ Below W.heap.size W w') := hfew
  have HSA : Hid (∀ W, Below w.heap.size w W → Calls Tryd.prog 10 #[.agg #[.int .i64 r, .int .i64 x, .int .i64 y, .int .i64 k]] W fun e w' => e = .returned (.string ⟨(seatL ⟨r, x, y, k⟩).toArray⟩) ∧ Below W.heap.size W w') := fun W hW => seat_any ⟨r, x, y, k⟩ h0 h1 h2 W (hp.next hW)
  have HSR : Hid (∀ W, Below w.heap.size w W → Calls Tryd.prog 11 #[.agg #[.int .i64 r, .int .i64 x, .int .i64 y, .int .i64 k]] W fun e w' => e = .returned (.string ⟨(seatL ⟨r, x, y, k⟩).toArray⟩) ∧ Below W.heap.size W w') := fun W hW => rseat_any ⟨r, x, y, k⟩ h0 h1 h2 W
  have HT : Hid (∀ W, Below w.heap.size w W → Calls Tryd.prog 7 #[] W fun e w' => e = .returned (.bool true) ∧ Below W.heap.size W w') := fun W hW => told_any W (hp.next hW)
  generalize seatL ⟨r, x, y, k⟩ = SL at HSA HSR
  clear hV hR hMv hMr hfew h0 h1 h2 hp
  have HB0 : Hid (Below w.heap.size w ((w.alloc (.cells #[.slice a1 n1 c1, .int .i64 gap, .int .i64 radius, .slice a2 n2 c2, .slice a3 n3 c3] 26)).alloc (.cells #[.int .i64 r, .int .i64 x, .int .i64 y, .int .i64 k] 28))) := (below_alloc w _).trans ((below_alloc (w.alloc (.cells #[.slice a1 n1 c1, .int .i64 gap, .int .i64 radius, .slice a2 n2 c2, .slice a3 n3 c3] 26)) (.cells #[.int .i64 r, .int .i64 x, .int .i64 y, .int .i64 k] 28)).mono (below_alloc w _).size)
  have HX0 : Hid (Box ((w.alloc (.cells #[.slice a1 n1 c1, .int .i64 gap, .int .i64 radius, .slice a2 n2 c2, .slice a3 n3 c3] 26)).alloc (.cells #[.int .i64 r, .int .i64 x, .int .i64 y, .int .i64 k] 28)) w.heap.size 26 #[.slice a1 n1 c1, .int .i64 gap, .int .i64 radius, .slice a2 n2 c2, .slice a3 n3 c3]) := (Box.fresh w _ _).next (below_alloc (w.alloc (.cells #[.slice a1 n1 c1, .int .i64 gap, .int .i64 radius, .slice a2 n2 c2, .slice a3 n3 c3] 26)) (.cells #[.int .i64 r, .int .i64 x, .int .i64 y, .int .i64 k] 28))
  have HS0 : Hid (Box ((w.alloc (.cells #[.slice a1 n1 c1, .int .i64 gap, .int .i64 radius, .slice a2 n2 c2, .slice a3 n3 c3] 26)).alloc (.cells #[.int .i64 r, .int .i64 x, .int .i64 y, .int .i64 k] 28)) (w.heap.size + 1) 28 #[.int .i64 r, .int .i64 x, .int .i64 y, .int .i64 k]) := by
    have h := Box.fresh (w.alloc (.cells #[.slice a1 n1 c1, .int .i64 gap, .int .i64 radius, .slice a2 n2 c2, .slice a3 n3 c3] 26)) 28 #[.int .i64 r, .int .i64 x, .int .i64 y, .int .i64 k]
    rw [World.size_alloc] at h
    exact h
  go_enter Tryd.func3, Tryd.ntmps3
  go_wp2_with fail
  generalize ((w.alloc (.cells #[.slice a1 n1 c1, .int .i64 gap, .int .i64 radius, .slice a2 n2 c2, .slice a3 n3 c3] 26)).alloc (.cells #[.int .i64 r, .int .i64 x, .int .i64 y, .int .i64 k] 28)) = W0 at HB0 HX0 HS0 ⊢
  generalize hq1 : w.heap.size + 1 = q1 at HS0 ⊢
  generalize hq0 : w.heap.size = q0 at HX0 ⊢
  clear hq0 hq1
  refine (HFF.out W0 HB0.out).mono ?_
  rintro e w1 ⟨rfl, hb1⟩
  have HB1 : Hid (Below w.heap.size w w1) := HB0.out.trans (hb1.mono HB0.out.size)
  have HX1 : Hid (Box w1 q0 26 #[.slice a1 n1 c1, .int .i64 gap, .int .i64 radius, .slice a2 n2 c2, .slice a3 n3 c3]) := HX0.out.next hb1
  have HS1 : Hid (Box w1 q1 28 #[.int .i64 r, .int .i64 x, .int .i64 y, .int .i64 k]) := HS0.out.next hb1
  clear hb1 HB0 HX0 HS0 HFF
  have hlen := HLEN.out
  unfold maxLen at hlen
  cases fb
  · go_wp2_with fail
    refine (HT.out w1 HB1.out).mono ?_
    rintro e w2 ⟨rfl, hb2⟩
    have HB2 : Hid (Below w.heap.size w w2) := HB1.out.trans (hb2.mono HB1.out.size)
    clear hb2
    go_wp2
    go_ret
    exact ⟨rfl, HB2.out⟩
  · by_cases h50 : len ≤ 50
    · have h50 : ¬ (len : Int) > 50 := by omega
      obtain ⟨v0, v1, v2, v3, v4⟩ := HX1.out.five
      have vl := HX1.out.lt
      go_wp2_with fail
      refine (HVV.out w1 HB1.out).mono ?_
      rintro e w2 ⟨rfl, hb2⟩
      have HB2 : Hid (Below w.heap.size w w2) := HB1.out.trans (hb2.mono HB1.out.size)
      have HX2 : Hid (Box w2 q0 26 #[.slice a1 n1 c1, .int .i64 gap, .int .i64 radius, .slice a2 n2 c2, .slice a3 n3 c3]) := HX1.out.next hb2
      have HS2 : Hid (Box w2 q1 28 #[.int .i64 r, .int .i64 x, .int .i64 y, .int .i64 k]) := HS1.out.next hb2
      clear hb2 HB1 HX1 HS1 HVV v0 v1 v2 v3 v4 vl
      obtain ⟨v0, v1, v2, v3, v4⟩ := HX2.out.five
      have vl := HX2.out.lt
      go_wp2_with fail
      refine (HRR.out w2 HB2.out).mono ?_
      rintro e w3 ⟨rfl, hb3⟩
      have HB3 : Hid (Below w.heap.size w w3) := HB2.out.trans (hb3.mono HB2.out.size)
      have HX3 : Hid (Box w3 q0 26 #[.slice a1 n1 c1, .int .i64 gap, .int .i64 radius, .slice a2 n2 c2, .slice a3 n3 c3]) := HX2.out.next hb3
      have HS3 : Hid (Box w3 q1 28 #[.int .i64 r, .int .i64 x, .int .i64 y, .int .i64 k]) := HS2.out.next hb3
      clear hb3 HB2 HX2 HS2 HRR v0 v1 v2 v3 v4 vl
      go_wp2_with fail
      have hne : Nonempty (BelowOf w3) := ⟨⟨w3, Below.refl _ w3⟩⟩
      have i0 := fun p : BelowOf w3 => (HX3.out.next p.h).cell 0 _ rfl
      have i1 := fun p : BelowOf w3 => (HX3.out.next p.h).cell 1 _ rfl
      have i2 := fun p : BelowOf w3 => (HX3.out.next p.h).cell 2 _ rfl
      have i3 := fun p : BelowOf w3 => (HX3.out.next p.h).cell 3 _ rfl
      have i4 := fun p : BelowOf w3 => (HX3.out.next p.h).cell 4 _ rfl
      have il := fun p : BelowOf w3 => (HX3.out.next p.h).lt
      have j0 := fun p : BelowOf w3 => (HS3.out.next p.h).cell 0 _ rfl
      have j1 := fun p : BelowOf w3 => (HS3.out.next p.h).cell 1 _ rfl
      have j2 := fun p : BelowOf w3 => (HS3.out.next p.h).cell 2 _ rfl
      have j3 := fun p : BelowOf w3 => (HS3.out.next p.h).cell 3 _ rfl
      have jl := fun p : BelowOf w3 => (HS3.out.next p.h).lt
      have QB : Hid (∀ p : BelowOf w3, Below w.heap.size w p.w) := fun p => HB3.out.trans (p.h.mono HB3.out.size)
      have QT : Hid (∀ p : BelowOf w3, Calls Tryd.prog 7 #[] p.w fun e w' => e = .returned (.bool true) ∧ Below p.w.heap.size p.w w') := fun p => HT.out _ (QB.out p)
      have QS : Hid (∀ p : BelowOf w3, Calls Tryd.prog 10 #[.agg #[.int .i64 r, .int .i64 x, .int .i64 y, .int .i64 k]] p.w fun e w' => e = .returned (.string ⟨SL.toArray⟩) ∧ Below p.w.heap.size p.w w') := fun p => HSA.out _ (QB.out p)
      have QR : Hid (∀ p : BelowOf w3, Calls Tryd.prog 11 #[.agg #[.int .i64 r, .int .i64 x, .int .i64 y, .int .i64 k]] p.w fun e w' => e = .returned (.string ⟨SL.toArray⟩) ∧ Below p.w.heap.size p.w w') := fun p => HSR.out _ (QB.out p)
      have QMV : Hid (∀ p : BelowOf w3, Calls Tryd.prog 12 #[.agg #[.slice a1 n1 c1, .int .i64 gap, .int .i64 radius, .slice a2 n2 c2, .slice a3 n3 c3], .slice ao len cap] p.w fun e w' => e = .returned (.string ⟨M.toArray⟩) ∧ Below p.w.heap.size p.w w') := fun p => HMV.out _ (QB.out p)
      have QMR : Hid (∀ p : BelowOf w3, Calls Tryd.prog 13 #[.agg #[.slice a1 n1 c1, .int .i64 gap, .int .i64 radius, .slice a2 n2 c2, .slice a3 n3 c3], .slice ao len cap] p.w fun e w' => e = .returned (.string ⟨M.toArray⟩) ∧ Below p.w.heap.size p.w w') := fun p => HMR.out _ (QB.out p)
      clear HX3 HS3 HT HSA HSR HMV HMR
      refine wp_region_quiet_below mixed (by kernel_rfl) ?_
      go_big_quiet_step (exact Calls.below_of (QT.out _))
      go_big_quiet_step (fail)
      go_big_quiet_step (fail)
      go_big_quiet_step (fail)
      go_big_quiet_step (fail)
      go_big_quiet_step (fail)
      go_big_quiet_step (fail)
      go_big_quiet_step (fail)
      go_big_quiet_step (fail)
      go_big_quiet_step (fail)
      go_big_quiet_step (fail)
      go_big_quiet_step (fail)
      go_big_quiet_step (fail)
      go_big_quiet_step (exact Calls.below_of (QS.out _))
      go_big_quiet_step (fail)
      go_big_quiet_step (exact Calls.below_of (QR.out _))
      go_big_quiet_step (fail)
      go_big_quiet_step (fail)
      go_big_quiet_step (fail)
      go_big_quiet_step (fail)
      go_big_quiet_step (fail)
      go_big_quiet_step (exact Calls.below_of (QMV.out _))
      go_big_quiet_step (fail)
      go_big_quiet_step (fail)
      go_big_quiet_step (exact Calls.below_of (QMR.out _))
      go_big_quiet_step (fail)
      go_big_quiet_step (fail)
      go_big_quiet_step (fail)
      refine wpQuiet_nil ?_
      rintro _ ⟨p, rfl⟩
      have HF : Hid (Below w.heap.size w p.w) := QB.out p
      go_wp2
      go_ret
      exact ⟨rfl, HF.out⟩
    · have h50 : (len : Int) > 50 := by omega
      go_wp2_with fail
      refine (HT.out w1 HB1.out).mono ?_
      rintro e w2 ⟨rfl, hb2⟩
      have HB2 : Hid (Below w.heap.size w w2) := HB1.out.trans (hb2.mono HB1.out.size)
      clear hb2
      go_wp2
      go_ret
      exact ⟨rfl, HB2.out⟩
end Go.Proofs.YtpkjhlcolgoknaaDoor.Prn
