/- VenueAsks by its walk: of any two venues that came in. -/
import Derived.Test.YtoaapngfbidllaaRNorm
import Derived.Test.YtoaapngfbidllaaRSame
namespace Go.Proofs.Ytoaapngfbidllaa
set_option linter.unusedVariables false
open Go.RowKit Go.Shelf

def fewB (n1 n2 n3 : Nat) : Bool := decide (n1 ≤ 40) && (decide (n2 ≤ 40) && decide (n3 ≤ 40))
theorem few_any (a1 a2 a3 : Option Addr) (n1 c1 n2 c2 n3 c3 : Nat) (g r : Int) (w : World) :
    Calls Try.prog 9 #[venV a1 n1 c1 g r a2 n2 c2 a3 n3 c3] w fun e w' => e = .returned (.bool (fewB n1 n2 n3)) ∧ Below w.heap.size w w' := by
  have hb : Below w.heap.size w (w.alloc (.cells #[.slice a1 n1 c1, .int .i64 g, .int .i64 r, .slice a2 n2 c2, .slice a3 n3 c3] 26)) := below_al w _
  by_cases h1 : (n1 : Int) ≤ 40
  · by_cases h2 : (n2 : Int) ≤ 40
    · by_cases h3 : (n3 : Int) ≤ 40
      · go_enter Try.func9, Try.ntmps9
        go_wp2
        go_ret
        exact ⟨ret_bool (by unfold fewB; simp; omega), hb⟩
      · go_enter Try.func9, Try.ntmps9
        go_wp2
        go_ret
        exact ⟨ret_bool (by unfold fewB; simp; omega), hb⟩
    · go_enter Try.func9, Try.ntmps9
      go_wp2
      go_ret
      exact ⟨ret_bool (by unfold fewB; simp; omega), hb⟩
  · go_enter Try.func9, Try.ntmps9
    go_wp2
    go_ret
    exact ⟨ret_bool (by unfold fewB; simp; omega), hb⟩
/-- What comes back, in one form: a venue, the zero one where there is none. -/
def outOf (r : Option Ven) : Ven := r.getD Z0
theorem normRes_form {e : Ending} {w : World} {r : Option Ven} (h : NormRes e w r) : ∃ b1 m1 d1 b2 m2 d2 b3 m3 d3, e = .returned (.tuple #[venV b1 m1 d1 (outOf r).gap (outOf r).radius b2 m2 d2 b3 m3 d3, .bool r.isSome]) ∧ VenAt w b1 m1 d1 b2 m2 d2 b3 m3 d3 (outOf r) := by
  cases r with
  | none => exact ⟨none, 0, 0, none, 0, 0, none, 0, 0, h, ven_Z0 w⟩
  | some U => exact h
theorem same_self (A : Ven) : sameB A A = true := (sameB_iff A A).2 rfl
structure ASt (w : World) (a1 : Option Addr) (n1 c1 : Nat) (a2 : Option Addr) (n2 c2 : Nat) (a3 : Option Addr) (n3 c3 : Nat) (A : Ven) (b1 : Option Addr) (m1 d1 : Nat) (b2 : Option Addr) (m2 d2 : Nat) (b3 : Option Addr) (m3 d3 : Nat) (B : Ven) (W : World) : Prop where
  past : Below w.heap.size w W
  vA : VenAt W a1 n1 c1 a2 n2 c2 a3 n3 c3 A
  vB : VenAt W b1 m1 d1 b2 m2 d2 b3 m3 d3 B
  xA : Box W w.heap.size 26 #[.slice a1 n1 c1, .int .i64 A.gap, .int .i64 A.radius, .slice a2 n2 c2, .slice a3 n3 c3]
  xB : Box W (w.heap.size + 1) 26 #[.slice b1 m1 d1, .int .i64 B.gap, .int .i64 B.radius, .slice b2 m2 d2, .slice b3 m3 d3]
theorem ASt.next {w : World} {a1 : Option Addr} {n1 c1 : Nat} {a2 : Option Addr} {n2 c2 : Nat} {a3 : Option Addr} {n3 c3 : Nat} {A : Ven} {b1 : Option Addr} {m1 d1 : Nat} {b2 : Option Addr} {m2 d2 : Nat} {b3 : Option Addr} {m3 d3 : Nat} {B : Ven} {W W' : World}
    (h : ASt w a1 n1 c1 a2 n2 c2 a3 n3 c3 A b1 m1 d1 b2 m2 d2 b3 m3 d3 B W) (hb : Below W.heap.size W W') : ASt w a1 n1 c1 a2 n2 c2 a3 n3 c3 A b1 m1 d1 b2 m2 d2 b3 m3 d3 B W' :=
  ⟨h.past.trans (hb.mono h.past.size), h.vA.next hb, h.vB.next hb, h.xA.next hb, h.xB.next hb⟩
set_option maxRecDepth 100000 in
set_option maxHeartbeats 1500000 in
theorem asks_walk (a1 a2 a3 b1 b2 b3 : Option Addr) (n1 c1 n2 c2 n3 c3 m1 d1 m2 d2 m3 d3 : Nat) (A B : Ven) (w : World) (hA : VenAt w a1 n1 c1 a2 n2 c2 a3 n3 c3 A) (hB : VenAt w b1 m1 d1 b2 m2 d2 b3 m3 d3 B) :
    Calls Try.prog 3 #[venV a1 n1 c1 A.gap A.radius a2 n2 c2 a3 n3 c3, venV b1 m1 d1 B.gap B.radius b2 m2 d2 b3 m3 d3] w fun e w' => e = .returned (.bool true) ∧ Below w.heap.size w w' := by
  have hb0 : Below w.heap.size w ((w.alloc (.cells #[.slice a1 n1 c1, .int .i64 A.gap, .int .i64 A.radius, .slice a2 n2 c2, .slice a3 n3 c3] 26)).alloc (.cells #[.slice b1 m1 d1, .int .i64 B.gap, .int .i64 B.radius, .slice b2 m2 d2, .slice b3 m3 d3] 26)) := ((Below.refl _ w).alloc (Nat.le_refl _) _).alloc (by simp) _
  have x1 := (Box.fresh w 26 #[.slice a1 n1 c1, .int .i64 A.gap, .int .i64 A.radius, .slice a2 n2 c2, .slice a3 n3 c3]).next (below_al _ (.cells #[.slice b1 m1 d1, .int .i64 B.gap, .int .i64 B.radius, .slice b2 m2 d2, .slice b3 m3 d3] 26))
  have x2 := Box.fresh (w.alloc (.cells #[.slice a1 n1 c1, .int .i64 A.gap, .int .i64 A.radius, .slice a2 n2 c2, .slice a3 n3 c3] 26)) 26 #[.slice b1 m1 d1, .int .i64 B.gap, .int .i64 B.radius, .slice b2 m2 d2, .slice b3 m3 d3]
  simp only [World.size_alloc] at x2
  have st : ASt w a1 n1 c1 a2 n2 c2 a3 n3 c3 A b1 m1 d1 b2 m2 d2 b3 m3 d3 B _ := ⟨hb0, hA.next hb0, hB.next hb0, x1, x2⟩
  have e1 := hA.s.len
  have e2 := hA.k.len
  have e3 := hA.p.len
  have HE : Hid (n1 = A.seats.length ∧ n2 = A.kills.length ∧ n3 = A.poles.length) := ⟨e1, e2, e3⟩
  clear hA hB hb0 x1 x2 e1 e2 e3
  have hf1 := few_any a1 a2 a3 n1 c1 n2 c2 n3 c3 A.gap A.radius
  have hf2 := few_any b1 b2 b3 m1 d1 m2 d2 m3 d3 B.gap B.radius
  have HF : Hid (fewB n1 n2 n3 = true → A.seats.length ≤ 40 ∧ A.kills.length ≤ 40 ∧ A.poles.length ≤ 40) := by
    show fewB n1 n2 n3 = true → A.seats.length ≤ 40 ∧ A.kills.length ≤ 40 ∧ A.poles.length ≤ 40
    intro h
    obtain ⟨h1, h2, h3⟩ := HE.out
    unfold fewB at h
    simp only [Bool.and_eq_true, decide_eq_true_eq] at h
    omega
  clear HE
  generalize fewB n1 n2 n3 = f1 at hf1 HF
  generalize fewB m1 m2 m3 = f2 at hf2
  go_enter Try.func3, Try.ntmps3
  go_wp2_with fail
  generalize ((w.alloc (.cells #[.slice a1 n1 c1, .int .i64 A.gap, .int .i64 A.radius, .slice a2 n2 c2, .slice a3 n3 c3] 26)).alloc (.cells #[.slice b1 m1 d1, .int .i64 B.gap, .int .i64 B.radius, .slice b2 m2 d2, .slice b3 m3 d3] 26)) = W0 at st ⊢
  refine (hf1 _).mono ?_
  rintro e W1 ⟨rfl, hb⟩
  have st1 := st.next hb
  clear st hb hf1
  obtain ⟨i0, i1, i2, i3, i4⟩ := st1.xA.five
  obtain ⟨j0, j1, j2, j3, j4⟩ := st1.xB.five
  have il := st1.xA.lt
  have jl := st1.xB.lt
  cases f1 with
  | false =>
    go_wp2_with fail
    refine (told_any _).mono ?_
    rintro e w2 ⟨rfl, hb⟩
    go_wp2
    go_ret
    exact ⟨rfl, (st1.next hb).past⟩
  | true =>
    have HF' : Hid (A.seats.length ≤ 40 ∧ A.kills.length ≤ 40 ∧ A.poles.length ≤ 40) := HF.out rfl
    clear HF
    go_wp2_with fail
    refine (hf2 _).mono ?_
    rintro e W2 ⟨rfl, hb⟩
    have st2 := st1.next hb
    clear st1 hb hf2 i0 i1 i2 i3 i4 j0 j1 j2 j3 j4 il jl
    obtain ⟨i0, i1, i2, i3, i4⟩ := st2.xA.five
    have il := st2.xA.lt
    cases f2 with
    | false =>
      go_wp2_with fail
      refine (told_any _).mono ?_
      rintro e w2 ⟨rfl, hb⟩
      go_wp2
      go_ret
      exact ⟨rfl, (st2.next hb).past⟩
    | true =>
      go_wp2_with fail
      refine (norm_any a1 a2 a3 n1 c1 n2 c2 n3 c3 A W2 st2.vA).mono ?_
      rintro e W3 ⟨r, hr, hres, hb⟩
      obtain ⟨p1, q1, r1, p2, q2, r2, p3, q3, r3, rfl, hU⟩ := normRes_form hres
      have st3 := (st2.next hb).next (below_al W3 (.cells #[.slice p1 q1 r1, .int .i64 (outOf r).gap, .int .i64 (outOf r).radius, .slice p2 q2 r2, .slice p3 q3 r3] 26))
      have hU3 := hU.next (below_al W3 (.cells #[.slice p1 q1 r1, .int .i64 (outOf r).gap, .int .i64 (outOf r).radius, .slice p2 q2 r2, .slice p3 q3 r3] 26))
      have x5 := Box.fresh W3 26 #[.slice p1 q1 r1, .int .i64 (outOf r).gap, .int .i64 (outOf r).radius, .slice p2 q2 r2, .slice p3 q3 r3]
      have HR : Hid (NormTo A r) := hr
      clear st2 hb hres hU hr i0 i1 i2 i3 i4 il
      obtain ⟨i0, i1, i2, i3, i4⟩ := st3.xA.five
      have il := st3.xA.lt
      go_wp2_with fail
      generalize hW4 : W3.alloc (.cells #[.slice p1 q1 r1, .int .i64 (outOf r).gap, .int .i64 (outOf r).radius, .slice p2 q2 r2, .slice p3 q3 r3] 26) = W4 at st3 hU3 x5 i0 i1 i2 i3 i4 il ⊢
      clear hW4
      generalize W3.heap.size = B5 at x5 ⊢
      refine (rnorm_any a1 a2 a3 n1 c1 n2 c2 n3 c3 A W4 st3.vA (by have := HF'.out; omega) (by have := HF'.out; omega)).mono ?_
      rintro e W5 ⟨r', hr', hres, hb⟩
      obtain rfl : r = r' := norm_agree HR.out hr' (by have := HF'.out; omega) (by have := HF'.out; omega)
      obtain ⟨s1, t1, u1, s2, t2, u2, s3, t3, u3, rfl, hV⟩ := normRes_form hres
      have st4 := (st3.next hb).next (below_al W5 (.cells #[.slice s1 t1 u1, .int .i64 (outOf r).gap, .int .i64 (outOf r).radius, .slice s2 t2 u2, .slice s3 t3 u3] 26))
      have hU4 := (hU3.next hb).next (below_al W5 (.cells #[.slice s1 t1 u1, .int .i64 (outOf r).gap, .int .i64 (outOf r).radius, .slice s2 t2 u2, .slice s3 t3 u3] 26))
      have hV4 := hV.next (below_al W5 (.cells #[.slice s1 t1 u1, .int .i64 (outOf r).gap, .int .i64 (outOf r).radius, .slice s2 t2 u2, .slice s3 t3 u3] 26))
      have y5 := (x5.next hb).next (below_al W5 (.cells #[.slice s1 t1 u1, .int .i64 (outOf r).gap, .int .i64 (outOf r).radius, .slice s2 t2 u2, .slice s3 t3 u3] 26))
      have y7 := Box.fresh W5 26 #[.slice s1 t1 u1, .int .i64 (outOf r).gap, .int .i64 (outOf r).radius, .slice s2 t2 u2, .slice s3 t3 u3]
      clear st3 hU3 x5 i0 i1 i2 i3 i4 il hr' hres hb hV HR HF'
      go_wp2_with fail
      generalize hW6 : W5.alloc (.cells #[.slice s1 t1 u1, .int .i64 (outOf r).gap, .int .i64 (outOf r).radius, .slice s2 t2 u2, .slice s3 t3 u3] 26) = W at st4 hU4 hV4 y5 y7 ⊢
      clear hW6
      generalize W5.heap.size = B7 at y7 ⊢
      have hne : Nonempty (BelowOf W) := ⟨⟨W, Below.refl _ W⟩⟩
      have ht : ∀ p : BelowOf W, _ := fun p => told_any p.w
      have hw1 : ∀ p : BelowOf W, _ := fun p => wrong_any a1 a2 a3 n1 c1 n2 c2 n3 c3 A p.w (st4.next p.h).vA
      have hw2 : ∀ p : BelowOf W, _ := fun p => rwrong_any a1 a2 a3 n1 c1 n2 c2 n3 c3 A p.w (st4.next p.h).vA
      have hm1 : ∀ p : BelowOf W, _ := fun p => may_any a1 a2 a3 n1 c1 n2 c2 n3 c3 A p.w (st4.next p.h).vA
      have hm2 : ∀ p : BelowOf W, _ := fun p => rmay_any a1 a2 a3 n1 c1 n2 c2 n3 c3 A p.w (st4.next p.h).vA
      have hs1 : ∀ p : BelowOf W, _ := fun p => same_any a1 a2 a3 b1 b2 b3 n1 c1 n2 c2 n3 c3 m1 d1 m2 d2 m3 d3 A B p.w (st4.next p.h).vA (st4.next p.h).vB
      have hs2 : ∀ p : BelowOf W, _ := fun p => rsame_any a1 a2 a3 b1 b2 b3 n1 c1 n2 c2 n3 c3 m1 d1 m2 d2 m3 d3 A B p.w (st4.next p.h).vA (st4.next p.h).vB
      have hs3 : ∀ p : BelowOf W, _ := fun p => rsame_any p1 p2 p3 s1 s2 s3 q1 r1 q2 r2 q3 r3 t1 u1 t2 u2 t3 u3 (outOf r) (outOf r) p.w (hU4.next p.h) (hV4.next p.h)
      rw [same_self] at hs3
      generalize wrongL A = wl at hw1 hw2
      generalize mayB A = mb at hm1 hm2
      generalize sameB A B = sb at hs1 hs2
      have i0 := fun p : BelowOf W => (st4.next p.h).xA.cell 0 _ rfl
      have i1 := fun p : BelowOf W => (st4.next p.h).xA.cell 1 _ rfl
      have i2 := fun p : BelowOf W => (st4.next p.h).xA.cell 2 _ rfl
      have i3 := fun p : BelowOf W => (st4.next p.h).xA.cell 3 _ rfl
      have i4 := fun p : BelowOf W => (st4.next p.h).xA.cell 4 _ rfl
      have j0 := fun p : BelowOf W => (st4.next p.h).xB.cell 0 _ rfl
      have j1 := fun p : BelowOf W => (st4.next p.h).xB.cell 1 _ rfl
      have j2 := fun p : BelowOf W => (st4.next p.h).xB.cell 2 _ rfl
      have j3 := fun p : BelowOf W => (st4.next p.h).xB.cell 3 _ rfl
      have j4 := fun p : BelowOf W => (st4.next p.h).xB.cell 4 _ rfl
      have k0 := fun p : BelowOf W => (y5.next p.h).cell 0 _ rfl
      have k1 := fun p : BelowOf W => (y5.next p.h).cell 1 _ rfl
      have k2 := fun p : BelowOf W => (y5.next p.h).cell 2 _ rfl
      have k3 := fun p : BelowOf W => (y5.next p.h).cell 3 _ rfl
      have k4 := fun p : BelowOf W => (y5.next p.h).cell 4 _ rfl
      have l0 := fun p : BelowOf W => (y7.next p.h).cell 0 _ rfl
      have l1 := fun p : BelowOf W => (y7.next p.h).cell 1 _ rfl
      have l2 := fun p : BelowOf W => (y7.next p.h).cell 2 _ rfl
      have l3 := fun p : BelowOf W => (y7.next p.h).cell 3 _ rfl
      have l4 := fun p : BelowOf W => (y7.next p.h).cell 4 _ rfl
      have HB : Hid (Below w.heap.size w W) := st4.past
      clear st4 hU4 hV4 y5 y7
      generalize outOf r = U at hs3 k0 k1 k2 k3 k4 l0 l1 l2 l3 l4 ⊢
      generalize r.isSome = ok
      refine wp_region_quiet_below mixed (by kernel_rfl) ?_
      repeat (go_big_quiet_step ((first
        | (go_at_call 10; exact Calls.below_of (ht _))
        | (go_at_call 13; exact Calls.below_of (hw1 _))
        | (go_at_call 14; exact Calls.below_of (hw2 _))
        | (go_at_call 15; exact Calls.below_of (hm1 _))
        | (go_at_call 16; exact Calls.below_of (hm2 _))
        | (go_at_call 17; exact Calls.below_of (hs1 _))
        | (go_at_call_of 18 (Value.slice a1 n1 c1); exact Calls.below_of (hs2 _))
        | (go_at_call 18; exact Calls.below_of (hs3 _)))))
      refine wpQuiet_nil ?_
      intro _ hw'
      obtain ⟨p, hw''⟩ := hw'
      subst hw''
      go_wp2
      go_ret
      exact ⟨rfl, HB.out.trans (p.h.mono HB.out.size)⟩
end Go.Proofs.Ytoaapngfbidllaa
