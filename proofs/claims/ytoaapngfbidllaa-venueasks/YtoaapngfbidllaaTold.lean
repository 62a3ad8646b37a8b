/- told answers true. -/
import Derived.Test.YtoaapngfbidllaaOrd
import Derived.Test.YtoaapngfbidllaaSame
import Derived.Test.YtoaapngfbidllaaQuiet
namespace Go.Proofs.Ytoaapngfbidllaa
set_option linter.unusedVariables false
open Go.RowKit Go.Shelf

def V0 : Ven := ⟨[⟨1, 5, 0, 0⟩, ⟨0, 9, 0, 0⟩], 1, 0, [0], []⟩
def U0 : Ven := ⟨[⟨0, 9, 0, 0⟩, ⟨1, 5, 0, 0⟩], 1, 0, [1], []⟩
def X0 : Ven := ⟨[⟨0, 9, 0, 0⟩, ⟨1, 5, 0, 0⟩], 0, 0, [1], []⟩
def Z0 : Ven := ⟨[], 0, 0, [], []⟩
theorem norm_V0 {r : Option Ven} (h : NormTo V0 r) : r = some U0 := by
  have := h.of_rising (ord := [1, 0]) (by decide) (by decide) (by decide) (by decide) (by decide)
  rw [this]; decide
theorem norm_Z0 {r : Option Ven} (h : NormTo Z0 r) : r = none := by
  have := h.of_rising (ord := []) (by decide) (by decide) (by decide) (by decide) (by decide)
  rw [this]; decide
theorem ven_Z0 (w : World) : VenAt w none 0 0 none 0 0 none 0 0 Z0 := ⟨.inl ⟨⟨_, _, rfl⟩, rfl⟩, .inl ⟨⟨_, _, rfl⟩, rfl⟩, .inl ⟨⟨_, _, rfl⟩, rfl⟩⟩
/-- What was there at 'w' is as it was. -/
def Past (w W : World) : Prop := Below w.heap.size w W
theorem Past.next {w W W' : World} (h : Past w W) (hb : Below W.heap.size W W') : Past w W' := Below.trans h (hb.mono h.size)
theorem Past.alloc {w W : World} (h : Past w W) (o : Obj) : Past w (W.alloc o) := Below.alloc h h.size o
theorem below_alloc (W : World) (o : Obj) : Below W.heap.size W (W.alloc o) := (Below.refl _ W).alloc (Nat.le_refl _) o

/-- A block that holds them one behind the other. -/
theorem Box.cells {α : Type} {enc : α → List Value} {k : Nat} (hk : ∀ x, (enc x).length = k) {w : World} {b : Nat} {e : TypeId} {cs : Array Value} {l : List α} (h : Box w b e cs) (hcs : cs = (l.flatMap enc).toArray) : Cells k enc w b 0 l := by
  refine ⟨h.lt, fun i hi j u hu => ?_⟩
  have hj : j < k := by rw [← hk l[i]]; exact (List.getElem?_eq_some_iff.1 hu).1
  rw [Nat.zero_add]
  refine h.cell _ u ?_
  rw [hcs, List.getElem?_toArray, flat_at enc k hk l i hi j hj]
  exact hu
/-- Norm of told's venue, in the words of the walk. -/
theorem told_norm (a1 a2 a3 : Option Addr) (n1 c1 n2 c2 n3 c3 : Nat) (w : World) (h : VenAt w a1 n1 c1 a2 n2 c2 a3 n3 c3 V0) :
    Calls Try.prog 11 #[venV a1 n1 c1 1 0 a2 n2 c2 a3 n3 c3] w fun e w' => ∃ sb so sc kb ko kc b3 m3 d3, e = .returned (.tuple #[venV (some ⟨sb, so, none⟩) 2 sc 1 0 (some ⟨kb, ko, none⟩) 1 kc b3 m3 d3, .bool true]) ∧
      VenAt w' (some ⟨sb, so, none⟩) 2 sc (some ⟨kb, ko, none⟩) 1 kc b3 m3 d3 U0 ∧ Below w.heap.size w w' := by
  refine (norm_any a1 a2 a3 n1 c1 n2 c2 n3 c3 V0 w h).mono ?_
  rintro e w' ⟨r, hr, hres, hb⟩
  rw [norm_V0 hr] at hres
  obtain ⟨b1, m1, d1, b2, m2, d2, b3, m3, d3, rfl, hv⟩ := hres
  have hs := hv.s
  have hk := hv.k
  have e1 : m1 = 2 := hv.s.len
  have e2 : m2 = 1 := hv.k.len
  subst e1
  subst e2
  rcases hs with ⟨_, h⟩ | ⟨sb, so, sc, he, _⟩
  · cases h
  rcases hk with ⟨_, h⟩ | ⟨kb, ko, kc, hk, _⟩
  · cases h
  have k1 : b1 = some ⟨sb, so, none⟩ := by injection he
  have k2 : b2 = some ⟨kb, ko, none⟩ := by injection hk
  subst k1
  subst k2
  exact ⟨sb, so, d1, kb, ko, d2, b3, m3, d3, rfl, hv, hb⟩
theorem told_norm0 (w : World) : Calls Try.prog 11 #[venV none 0 0 0 0 none 0 0 none 0 0] w fun e w' => e = .returned (.tuple #[venZ, .bool false]) ∧ Below w.heap.size w w' := by
  refine (norm_any none none none 0 0 0 0 0 0 Z0 w (ven_Z0 w)).mono ?_
  rintro e w' ⟨r, hr, hres, hb⟩
  rw [norm_Z0 hr] at hres
  exact ⟨hres, hb⟩
theorem told_wrong0 (w : World) : Calls Try.prog 13 #[venV none 0 0 0 0 none 0 0 none 0 0] w fun e w' => e = .returned (.string ⟨#[115, 101, 97, 116, 115]⟩) ∧ Below w.heap.size w w' := wrong_any none none none 0 0 0 0 0 0 Z0 w (ven_Z0 w)
theorem told_wrongV (a1 a2 a3 : Option Addr) (n1 c1 n2 c2 n3 c3 : Nat) (w : World) (h : VenAt w a1 n1 c1 a2 n2 c2 a3 n3 c3 V0) :
    Calls Try.prog 13 #[venV a1 n1 c1 1 0 a2 n2 c2 a3 n3 c3] w fun e w' => e = .returned (.string ⟨#[115, 101, 97, 116, 115]⟩) ∧ Below w.heap.size w w' := by
  have h := wrong_any a1 a2 a3 n1 c1 n2 c2 n3 c3 V0 w h
  rw [show wrongL V0 = [115, 101, 97, 116, 115] by decide] at h
  exact h
theorem told_wrongX (a1 a2 a3 : Option Addr) (n1 c1 n2 c2 n3 c3 : Nat) (w : World) (h : VenAt w a1 n1 c1 a2 n2 c2 a3 n3 c3 U0) :
    Calls Try.prog 13 #[venV a1 n1 c1 0 0 a2 n2 c2 a3 n3 c3] w fun e w' => e = .returned (.string ⟨#[103, 97, 112]⟩) ∧ Below w.heap.size w w' := by
  have h := wrong_any a1 a2 a3 n1 c1 n2 c2 n3 c3 X0 w ⟨h.s, h.k, h.p⟩
  rw [show wrongL X0 = [103, 97, 112] by decide] at h
  exact h
theorem told_may (a1 a2 a3 : Option Addr) (n1 c1 n2 c2 n3 c3 : Nat) (w : World) (h : VenAt w a1 n1 c1 a2 n2 c2 a3 n3 c3 U0) :
    Calls Try.prog 15 #[venV a1 n1 c1 1 0 a2 n2 c2 a3 n3 c3] w fun e w' => e = .returned (.bool true) ∧ Below w.heap.size w w' := by
  have h := may_any a1 a2 a3 n1 c1 n2 c2 n3 c3 U0 w h
  rw [show mayB U0 = true by decide] at h
  exact h
theorem told_same (a1 a2 a3 : Option Addr) (n1 c1 n2 c2 n3 c3 : Nat) (w : World) (h : VenAt w a1 n1 c1 a2 n2 c2 a3 n3 c3 U0) :
    Calls Try.prog 17 #[venV a1 n1 c1 1 0 a2 n2 c2 a3 n3 c3, venV a1 n1 c1 1 0 a2 n2 c2 a3 n3 c3] w fun e w' => e = .returned (.bool true) ∧ Below w.heap.size w w' := by
  have h := same_any a1 a2 a3 a1 a2 a3 n1 c1 n2 c2 n3 c3 n1 c1 n2 c2 n3 c3 U0 U0 w h h
  rw [show sameB U0 U0 = true by decide] at h
  exact h
theorem told_unlike (a1 a2 a3 : Option Addr) (n1 c1 n2 c2 n3 c3 : Nat) (w : World) (h : VenAt w a1 n1 c1 a2 n2 c2 a3 n3 c3 U0) :
    Calls Try.prog 17 #[venV a1 n1 c1 1 0 a2 n2 c2 a3 n3 c3, venV a1 n1 c1 0 0 a2 n2 c2 a3 n3 c3] w fun e w' => e = .returned (.bool false) ∧ Below w.heap.size w w' := by
  have h := same_any a1 a2 a3 a1 a2 a3 n1 c1 n2 c2 n3 c3 n1 c1 n2 c2 n3 c3 U0 X0 w h ⟨h.s, h.k, h.p⟩
  rw [show sameB U0 X0 = false by decide] at h
  exact h
theorem told_less (w : World) : Calls Try.prog 19 #[seatV 0 9 0 0, seatV 1 5 0 0] w fun e w' => e = .returned (.bool true) ∧ Below w.heap.size w w' :=
  (less_any 0 9 0 0 1 5 0 0 w).mono fun e w' ⟨he, hb⟩ => ⟨he, hb.below⟩
theorem ven_V0 (w : World) : VenAt (((w.alloc (.cells #[.int .i64 1, .int .i64 5, .int .i64 0, .int .i64 0, .int .i64 0, .int .i64 9, .int .i64 0, .int .i64 0] 34)).alloc (.cells #[.int .i64 0] 3)).alloc (.cells #[.slice (some ⟨w.heap.size, 0, none⟩) 2 2, .int .i64 1, .int .i64 0, .slice (some ⟨w.heap.size + 1, 0, none⟩) 1 1, .slice none 0 0] 26))
    (some ⟨w.heap.size, 0, none⟩) 2 2 (some ⟨w.heap.size + 1, 0, none⟩) 1 1 none 0 0 V0 := by
  have k1 := ((Box.fresh w 34 #[.int .i64 1, .int .i64 5, .int .i64 0, .int .i64 0, .int .i64 0, .int .i64 9, .int .i64 0, .int .i64 0]).next (below_alloc _ (.cells #[.int .i64 0] 3))).next (below_alloc _ (.cells #[.slice (some ⟨w.heap.size, 0, none⟩) 2 2, .int .i64 1, .int .i64 0, .slice (some ⟨w.heap.size + 1, 0, none⟩) 1 1, .slice none 0 0] 26))
  have k2 := (Box.fresh (w.alloc (.cells #[.int .i64 1, .int .i64 5, .int .i64 0, .int .i64 0, .int .i64 0, .int .i64 9, .int .i64 0, .int .i64 0] 34)) 3 #[.int .i64 0]).next (below_alloc _ (.cells #[.slice (some ⟨w.heap.size, 0, none⟩) 2 2, .int .i64 1, .int .i64 0, .slice (some ⟨w.heap.size + 1, 0, none⟩) 1 1, .slice none 0 0] 26))
  simp only [World.size_alloc] at k2
  exact ⟨.inr ⟨_, _, _, rfl, by decide, by decide, k1.cells seatC_len rfl⟩, .inr ⟨_, _, _, rfl, by decide, by decide, k2.cells intC_len rfl⟩, .inl ⟨⟨_, _, rfl⟩, rfl⟩⟩
structure TSt (w : World) (B2 B4 sb so sc kb ko kc : Nat) (b3 : Option Addr) (m3 d3 : Nat) (W : World) : Prop where
  past : Past w W
  v : VenAt W (some ⟨w.heap.size, 0, none⟩) 2 2 (some ⟨w.heap.size + 1, 0, none⟩) 1 1 none 0 0 V0
  x1 : Box W (w.heap.size + 1 + 1) 26 #[.slice (some ⟨w.heap.size, 0, none⟩) 2 2, .int .i64 1, .int .i64 0, .slice (some ⟨w.heap.size + 1, 0, none⟩) 1 1, .slice none 0 0]
  x2 : Box W B2 26 #[.slice (some ⟨sb, so, none⟩) 2 sc, .int .i64 1, .int .i64 0, .slice (some ⟨kb, ko, none⟩) 1 kc, .slice b3 m3 d3]
  x4 : Box W B4 26 #[.slice (some ⟨sb, so, none⟩) 2 sc, .int .i64 0, .int .i64 0, .slice (some ⟨kb, ko, none⟩) 1 kc, .slice b3 m3 d3]
  u : VenAt W (some ⟨sb, so, none⟩) 2 sc (some ⟨kb, ko, none⟩) 1 kc b3 m3 d3 U0
theorem TSt.next {w : World} {B2 B4 sb so sc kb ko kc : Nat} {b3 : Option Addr} {m3 d3 : Nat} {W W' : World} (h : TSt w B2 B4 sb so sc kb ko kc b3 m3 d3 W) (hb : Below W.heap.size W W') : TSt w B2 B4 sb so sc kb ko kc b3 m3 d3 W' :=
  ⟨h.past.next hb, h.v.next hb, h.x1.next hb, h.x2.next hb, h.x4.next hb, h.u.next hb⟩
theorem Sl.some_cells {α : Type} {k : Nat} {enc : α → List Value} {w : World} {b off n c : Nat} {l : List α} (h : Sl k enc w (.slice (some ⟨b, off, none⟩) n c) l) (hn : 0 < n) : Cells k enc w b off l := by
  rcases h with ⟨⟨a', c', h⟩, _⟩ | ⟨b', off', cap, h, _, _, hC⟩
  · cases h; exact absurd hn (Nat.lt_irrefl _)
  · cases h; exact hC
theorem TSt.seat0 {w : World} {B2 B4 sb so sc kb ko kc : Nat} {b3 : Option Addr} {m3 d3 : Nat} {W : World} (h : TSt w B2 B4 sb so sc kb ko kc b3 m3 d3 W) : SeatAt W sb so 0 9 0 0 := by
  have := (h.u.s.some_cells (by decide)).seat 0 (by decide)
  simpa [U0] using this
theorem TSt.seat1 {w : World} {B2 B4 sb so sc kb ko kc : Nat} {b3 : Option Addr} {m3 d3 : Nat} {W : World} (h : TSt w B2 B4 sb so sc kb ko kc b3 m3 d3 W) : SeatAt W sb (so + 4) 1 5 0 0 := by
  have := (h.u.s.some_cells (by decide)).seat 1 (by decide)
  simpa [U0] using this
theorem TSt.kill0 {w : World} {B2 B4 sb so sc kb ko kc : Nat} {b3 : Option Addr} {m3 d3 : Nat} {W : World} (h : TSt w B2 B4 sb so sc kb ko kc b3 m3 d3 W) : W.cell? ⟨kb, ko, none⟩ = some (.int .i64 1) := by
  have := (h.u.k.some_cells (by decide)).int 0 (by decide)
  simpa [U0] using this
theorem Box.five {W : World} {B : Nat} {a b c d e : Value} (h : Box W B 26 #[a, b, c, d, e]) : W.cell? ⟨B, 0, none⟩ = some a ∧ W.cell? ⟨B, 1, none⟩ = some b ∧ W.cell? ⟨B, 2, none⟩ = some c ∧ W.cell? ⟨B, 3, none⟩ = some d ∧ W.cell? ⟨B, 4, none⟩ = some e :=
  ⟨h.cell 0 _ rfl, h.cell 1 _ rfl, h.cell 2 _ rfl, h.cell 3 _ rfl, h.cell 4 _ rfl⟩
set_option maxHeartbeats 4000000 in
set_option maxRecDepth 100000 in
theorem told_any (w : World) : Calls Try.prog 10 #[] w fun e w' => e = .returned (.bool true) ∧ Below w.heap.size w w' := by
  go_enter Try.func10, Try.ntmps10
  go_wp2_with fail
  refine (told_norm _ _ _ _ _ _ _ _ _ _ (ven_V0 w)).mono ?_
  rintro e w1 ⟨sb, so, sc, kb, ko, kc, b3, m3, d3, rfl, hu, hb⟩
  have vv := (ven_V0 w).next hb
  have x1 := (Box.fresh ((w.alloc (.cells #[.int .i64 1, .int .i64 5, .int .i64 0, .int .i64 0, .int .i64 0, .int .i64 9, .int .i64 0, .int .i64 0] 34)).alloc (.cells #[.int .i64 0] 3)) 26 #[.slice (some ⟨w.heap.size, 0, none⟩) 2 2, .int .i64 1, .int .i64 0, .slice (some ⟨w.heap.size + 1, 0, none⟩) 1 1, .slice none 0 0]).next hb
  simp at x1
  have p1 : Past w w1 := Below.trans ((((Below.refl _ w).alloc (Nat.le_refl _) _).alloc (by simp) _).alloc (by simp; omega) _) (hb.mono (by simp; omega))
  clear hb
  go_wp2_with fail
  have st1 : TSt w w1.heap.size (w1.heap.size + 1) sb so sc kb ko kc b3 m3 d3 ((w1.alloc (.cells #[.slice (some ⟨sb, so, none⟩) 2 sc, .int .i64 1, .int .i64 0, .slice (some ⟨kb, ko, none⟩) 1 kc, .slice b3 m3 d3] 26)).alloc (.cells #[.slice (some ⟨sb, so, none⟩) 2 sc, .int .i64 0, .int .i64 0, .slice (some ⟨kb, ko, none⟩) 1 kc, .slice b3 m3 d3] 26)) :=
    { past := (p1.alloc _).alloc _, v := (vv.next (below_alloc _ _)).next (below_alloc _ _), x1 := (x1.next (below_alloc _ _)).next (below_alloc _ _), x2 := (Box.fresh _ _ _).next (below_alloc _ _), x4 := (by have h := Box.fresh (w1.alloc (.cells #[.slice (some ⟨sb, so, none⟩) 2 sc, .int .i64 1, .int .i64 0, .slice (some ⟨kb, ko, none⟩) 1 kc, .slice b3 m3 d3] 26)) 26 #[.slice (some ⟨sb, so, none⟩) 2 sc, .int .i64 0, .int .i64 0, .slice (some ⟨kb, ko, none⟩) 1 kc, .slice b3 m3 d3]; simp only [World.size_alloc] at h; exact h), u := (hu.next (below_alloc _ _)).next (below_alloc _ _) }
  clear vv x1 p1 hu
  refine (told_norm0 _).mono ?_
  rintro e W2 ⟨rfl, hb⟩
  have st2 := (st1.next hb).next (below_alloc W2 (.cells #[.slice none 0 0, .int .i64 0, .int .i64 0, .slice none 0 0, .slice none 0 0] 26))
  clear st1 hb
  go_wp2_with fail
  generalize W2.alloc (.cells #[.slice none 0 0, .int .i64 0, .int .i64 0, .slice none 0 0, .slice none 0 0] 26) = W at st2 ⊢
  have hne : Nonempty (BelowOf W) := ⟨⟨W, Below.refl _ W⟩⟩
  have st := fun p : BelowOf W => st2.next p.h
  have i0 := fun p : BelowOf W => (st p).x1.cell 0 _ rfl
  have i1 := fun p : BelowOf W => (st p).x1.cell 1 _ rfl
  have i2 := fun p : BelowOf W => (st p).x1.cell 2 _ rfl
  have i3 := fun p : BelowOf W => (st p).x1.cell 3 _ rfl
  have i4 := fun p : BelowOf W => (st p).x1.cell 4 _ rfl
  have j0 := fun p : BelowOf W => (st p).x2.cell 0 _ rfl
  have j1 := fun p : BelowOf W => (st p).x2.cell 1 _ rfl
  have j2 := fun p : BelowOf W => (st p).x2.cell 2 _ rfl
  have j3 := fun p : BelowOf W => (st p).x2.cell 3 _ rfl
  have j4 := fun p : BelowOf W => (st p).x2.cell 4 _ rfl
  have l0 := fun p : BelowOf W => (st p).x4.cell 0 _ rfl
  have l1 := fun p : BelowOf W => (st p).x4.cell 1 _ rfl
  have l2 := fun p : BelowOf W => (st p).x4.cell 2 _ rfl
  have l3 := fun p : BelowOf W => (st p).x4.cell 3 _ rfl
  have l4 := fun p : BelowOf W => (st p).x4.cell 4 _ rfl
  have s0 := fun p : BelowOf W => (st p).seat0.c0
  have s1 := fun p : BelowOf W => (st p).seat0.c1
  have s2 := fun p : BelowOf W => (st p).seat0.c2
  have s3 := fun p : BelowOf W => (st p).seat0.c3
  have t0 := fun p : BelowOf W => (st p).seat1.c0
  have t1 := fun p : BelowOf W => (st p).seat1.c1
  have t2 := fun p : BelowOf W => (st p).seat1.c2
  have t3 := fun p : BelowOf W => (st p).seat1.c3
  have k0 := fun p : BelowOf W => (st p).kill0
  have ST : Hid (∀ p : BelowOf W, TSt w w1.heap.size (w1.heap.size + 1) sb so sc kb ko kc b3 m3 d3 p.w) := st
  clear st st2
  simp only [List.append_eq, List.cons_append, List.nil_append]
  refine wp_region_quiet_below mixed (by kernel_rfl) ?_
  repeat (go_big_quiet_step ((first
    | (go_at_call_of 13 (Value.slice (some (Addr.mk sb so none)) 2 sc); exact Calls.below_of (told_wrongX _ _ _ _ _ _ _ _ _ _ (ST.out _).u))
    | (go_at_call_of 13 (Value.slice (some (Addr.mk w.heap.size 0 none)) 2 2); exact Calls.below_of (told_wrongV _ _ _ _ _ _ _ _ _ _ (ST.out _).v))
    | (go_at_call 13; exact Calls.below_of (told_wrong0 _))
    | (go_at_call 15; exact Calls.below_of (told_may _ _ _ _ _ _ _ _ _ _ (ST.out _).u))
    | (go_at_call_of 17 (Value.agg #[Value.slice (some (Addr.mk sb so none)) 2 sc, Value.int IntKind.i64 0, Value.int IntKind.i64 0, Value.slice (some (Addr.mk kb ko none)) 1 kc, Value.slice b3 m3 d3]); exact Calls.below_of (told_unlike _ _ _ _ _ _ _ _ _ _ (ST.out _).u))
    | (go_at_call 17; exact Calls.below_of (told_same _ _ _ _ _ _ _ _ _ _ (ST.out _).u))
    | (go_at_call 19; exact Calls.below_of (told_less _)))))
  refine wpQuiet_nil ?_
  intro _ hw'
  obtain ⟨p, hw''⟩ := hw'
  subst hw''
  go_wp2
  go_ret
  exact ⟨rfl, (ST.out p).past⟩
end Go.Proofs.Ytoaapngfbidllaa
