/- What the texts that told reads come to; parterrelaw4.told answers true; A text read line by line: plain facts; The texts of ParseFirst, and what reading them comes to; ParseLarge answers true. -/
import Derived.Test.YtpkjhlcolgoknaaGreatDoorZag
import Derived.Test.YtpkjhlcolgoknaaGreatDoorFSpotC
import Derived.Test.YtpkjhlcolgoknaaGreatDoorVRSeats
import Derived.Test.YtpkjhlcolgoknaaGreatDoorZae
import Derived.Test.YtpkjhlcolgoknaaGreatDoorTLinesP
import Derived.Test.YtpkjhlcolgoknaaGreatDoorTText
import Derived.Test.YtpkjhlcolgoknaaGreatDoorVMarks
import Derived.Lib.LazyBuf
import Derived.Lib.SlBytesRow
namespace Go.Proofs.YtpkjhlcolgoknaaGreatDoor.Par
set_option linter.unusedVariables false
set_option maxRecDepth 100000
open Go.Proofs.YtpkjhlcolgoknaaGreatDoor.Ven (Seat Pole Ven)

theorem read_t1 : readL [103, 97, 112, 32, 50, 10, 119, 104, 101, 101, 108, 32, 49, 32, 51, 32, 52, 32, 35, 32, 104, 101, 114, 101, 10, 115, 101, 97, 116, 32, 48, 32, 53, 32, 54, 10, 107, 105, 108, 108, 32, 49, 32, 51, 10, 112, 111, 108, 101, 32, 48, 32, 48, 32, 57, 10] = .ok ⟨[⟨1, 3, 4, 1⟩, ⟨0, 5, 6, 0⟩], 2, 0, [0], [⟨0, 0, 9⟩]⟩ := by kernel_rfl
theorem read_t2 : readL [] = .error (2, 1, 1) := by kernel_rfl
theorem read_t3 : readL [103, 97, 112, 32, 49, 10, 115, 101, 97, 116, 32, 48, 32, 48, 32, 48, 10, 115, 101, 97, 116, 32, 48, 32, 48, 32, 53, 10] = .error (2, 3, 1) := by kernel_rfl
theorem read_t4 : readL [103, 97, 112, 32, 49, 10, 115, 101, 97, 116, 32, 48, 32, 48, 32, 48, 10, 107, 105, 108, 108, 32, 48, 32, 57] = .error (2, 3, 6) := by kernel_rfl
theorem read_t5 : readL [103, 97, 112, 32, 48, 10] = .error (2, 1, 5) := by kernel_rfl
theorem read_t6 : readL [115, 101, 97, 116, 32, 49, 32, 50, 10] = .error (2, 1, 9) := by kernel_rfl
theorem read_t7 : readL [120] = .error (2, 1, 1) := by kernel_rfl
end Go.Proofs.YtpkjhlcolgoknaaGreatDoor.Par

namespace Go.Proofs.YtpkjhlcolgoknaaGreatDoor.Par
set_option linter.unusedVariables false
set_option maxRecDepth 100000
open Go.RowKit Go.Shelf
open Go.Proofs.YtpkjhlcolgoknaaGreatDoor.Ven (Seat Pole Ven Box venV venZ VenAt VenOwn NormTo normU IsOrder mayB order_unique rising_order BelowOf wp_region_quiet_below mixed SeatAt below_alloc ltS)
open Go.Proofs.YtpkjhlcolgoknaaGreatDoor.Flt (Et I64 Chain)

/-- What the law leans on in memory: the listed variables that are read. -/
structure Has0 (w : World) : Prop where
  rng : Tok.Rng w
  et : Et w
theorem Has0.next {w w' : World} (h : Has0 w) (hb : Below w.heap.size w w') : Has0 w' := ⟨h.rng.next hb, Et.next h.et hb⟩
def V1 : Ven := ⟨[⟨1, 3, 4, 1⟩, ⟨0, 5, 6, 0⟩], 2, 0, [0], [⟨0, 0, 9⟩]⟩
def U1 : Ven := ⟨[⟨0, 5, 6, 0⟩, ⟨1, 3, 4, 1⟩], 2, 0, [1], [⟨0, 0, 9⟩]⟩
theorem norm_V1 {ord : List Nat} (h : IsOrder V1.seats ord) : normU V1 ord = U1 := by
  have hr : ([1, 0] : List Nat).Pairwise fun i j => ltS V1.seats[i]! V1.seats[j]! = true := by decide
  have hp : ([1, 0] : List Nat).Perm (List.range V1.seats.length) := List.Perm.swap 0 1 []
  rw [← order_unique (rising_order hp hr) h hr]
  decide
theorem told_v1 (w : World) (hL : Has0 w) : Calls Tryz.prog 14 #[.string ⟨[103, 97, 112, 32, 50, 10, 119, 104, 101, 101, 108, 32, 49, 32, 51, 32, 52, 32, 35, 32, 104, 101, 114, 101, 10, 115, 101, 97, 116, 32, 48, 32, 53, 32, 54, 10, 107, 105, 108, 108, 32, 49, 32, 51, 10, 112, 111, 108, 101, 32, 48, 32, 48, 32, 57, 10].toArray⟩] w fun e w' => ∃ sb so sc kb ko kc pa pc, e = .returned (.tuple #[venV (some ⟨sb, so, none⟩) 2 sc 2 0 (some ⟨kb, ko, none⟩) 1 kc pa 1 pc, .nilIface]) ∧ VenAt w' (some ⟨sb, so, none⟩) 2 sc (some ⟨kb, ko, none⟩) 1 kc pa 1 pc U1 ∧ Below w.heap.size w w' := by
  refine (venue_any [103, 97, 112, 32, 50, 10, 119, 104, 101, 101, 108, 32, 49, 32, 51, 32, 52, 32, 35, 32, 104, 101, 114, 101, 10, 115, 101, 97, 116, 32, 48, 32, 53, 32, 54, 10, 107, 105, 108, 108, 32, 49, 32, 51, 10, 112, 111, 108, 101, 32, 48, 32, 48, 32, 57, 10] w hL.rng hL.et (fun p hp => by rw [read_t1] at hp; cases hp)).mono ?_
  rintro e w' ⟨hv, hb⟩
  rw [read_t1] at hv
  obtain ⟨ord, ho, _, b1, m1, d1, b2, m2, d2, b3, m3, d3, rfl, hU⟩ := hv
  have hn := norm_V1 ho
  unfold V1 at hn
  rw [hn] at hU
  have hA := hU.at
  have e1 : m1 = 2 := hA.s.len
  have e2 : m2 = 1 := hA.k.len
  have e3 : m3 = 1 := hA.p.len
  subst e1 e2 e3
  rcases hA.s with ⟨_, h⟩ | ⟨sb, so, sc, he, _⟩
  · cases h
  rcases hA.k with ⟨_, h⟩ | ⟨kb, ko, kc, hk, _⟩
  · cases h
  injection he with he1 _ _
  injection hk with hk1 _ _
  subst he1 hk1
  exact ⟨sb, so, d1, kb, ko, d2, b3, d3, rfl, hA, hb⟩
theorem told_c2 (w : World) (hL : Has0 w) : Calls Tryz.prog 13 #[.string ⟨[].toArray⟩] w fun e w' => e = .returned (.tuple #[.int .i64 2, .agg #[.int .i64 1, .int .i64 1]]) ∧ Below w.heap.size w w' := by
  have h := check_any [] w hL.rng hL.et
  rw [read_t2] at h
  exact h
theorem told_c3 (w : World) (hL : Has0 w) : Calls Tryz.prog 13 #[.string ⟨[103, 97, 112, 32, 49, 10, 115, 101, 97, 116, 32, 48, 32, 48, 32, 48, 10, 115, 101, 97, 116, 32, 48, 32, 48, 32, 53, 10].toArray⟩] w fun e w' => e = .returned (.tuple #[.int .i64 2, .agg #[.int .i64 3, .int .i64 1]]) ∧ Below w.heap.size w w' := by
  have h := check_any [103, 97, 112, 32, 49, 10, 115, 101, 97, 116, 32, 48, 32, 48, 32, 48, 10, 115, 101, 97, 116, 32, 48, 32, 48, 32, 53, 10] w hL.rng hL.et
  rw [read_t3] at h
  exact h
theorem told_c4 (w : World) (hL : Has0 w) : Calls Tryz.prog 13 #[.string ⟨[103, 97, 112, 32, 49, 10, 115, 101, 97, 116, 32, 48, 32, 48, 32, 48, 10, 107, 105, 108, 108, 32, 48, 32, 57].toArray⟩] w fun e w' => e = .returned (.tuple #[.int .i64 2, .agg #[.int .i64 3, .int .i64 6]]) ∧ Below w.heap.size w w' := by
  have h := check_any [103, 97, 112, 32, 49, 10, 115, 101, 97, 116, 32, 48, 32, 48, 32, 48, 10, 107, 105, 108, 108, 32, 48, 32, 57] w hL.rng hL.et
  rw [read_t4] at h
  exact h
theorem told_c5 (w : World) (hL : Has0 w) : Calls Tryz.prog 13 #[.string ⟨[103, 97, 112, 32, 48, 10].toArray⟩] w fun e w' => e = .returned (.tuple #[.int .i64 2, .agg #[.int .i64 1, .int .i64 5]]) ∧ Below w.heap.size w w' := by
  have h := check_any [103, 97, 112, 32, 48, 10] w hL.rng hL.et
  rw [read_t5] at h
  exact h
theorem told_c6 (w : World) (hL : Has0 w) : Calls Tryz.prog 13 #[.string ⟨[115, 101, 97, 116, 32, 49, 32, 50, 10].toArray⟩] w fun e w' => e = .returned (.tuple #[.int .i64 2, .agg #[.int .i64 1, .int .i64 9]]) ∧ Below w.heap.size w w' := by
  have h := check_any [115, 101, 97, 116, 32, 49, 32, 50, 10] w hL.rng hL.et
  rw [read_t6] at h
  exact h
theorem told_v7 (w : World) (hL : Has0 w) : Calls Tryz.prog 14 #[.string ⟨[120].toArray⟩] w fun e w' => ∃ v, e = .returned (.tuple #[venZ, v]) ∧ FaultAt 2 1 1 v w' ∧ Below w.heap.size w w' := by
  refine (venue_any [120] w hL.rng hL.et (fun p hp => by rw [read_t7] at hp; injection hp with hp; subst hp; decide)).mono ?_
  rintro e w' ⟨hv, hb⟩
  rw [read_t7] at hv
  obtain ⟨v, he, hf⟩ := hv
  exact ⟨v, he, hf, hb⟩
structure TSt (w : World) (B1 B2 B3 B4 B5 B6 sb so sc kb ko kc : Nat) (pa : Option Addr) (pc : Nat) (v : Value) (W : World) : Prop where
  past : Below w.heap.size w W
  lean : Has0 W
  x : Box W B1 33 #[.slice (some ⟨sb, so, none⟩) 2 sc, .int .i64 2, .int .i64 0, .slice (some ⟨kb, ko, none⟩) 1 kc, .slice pa 1 pc]
  u : VenAt W (some ⟨sb, so, none⟩) 2 sc (some ⟨kb, ko, none⟩) 1 kc pa 1 pc U1
  s2 : Box W B2 27 #[.int .i64 1, .int .i64 1]
  s3 : Box W B3 27 #[.int .i64 3, .int .i64 1]
  s4 : Box W B4 27 #[.int .i64 3, .int .i64 6]
  s5 : Box W B5 27 #[.int .i64 1, .int .i64 5]
  s6 : Box W B6 27 #[.int .i64 1, .int .i64 9]
  f : FaultAt 2 1 1 v W
variable {w : World} {B1 B2 B3 B4 B5 B6 sb so sc kb ko kc : Nat} {pa : Option Addr} {pc : Nat} {v : Value} {W W' : World}
theorem TSt.next (h : TSt w B1 B2 B3 B4 B5 B6 sb so sc kb ko kc pa pc v W) (hb : Below W.heap.size W W') : TSt w B1 B2 B3 B4 B5 B6 sb so sc kb ko kc pa pc v W' :=
  ⟨h.past.trans (hb.mono h.past.size), h.lean.next hb, h.x.next hb, h.u.next hb, h.s2.next hb, h.s3.next hb, h.s4.next hb, h.s5.next hb, h.s6.next hb, h.f.next hb⟩
theorem TSt.seat0 (h : TSt w B1 B2 B3 B4 B5 B6 sb so sc kb ko kc pa pc v W) : SeatAt W sb so 0 5 6 0 := by
  have := (h.u.s.some_cells (by decide)).seat 0 (by decide)
  simpa [U1] using this
theorem TSt.seat1 (h : TSt w B1 B2 B3 B4 B5 B6 sb so sc kb ko kc pa pc v W) : SeatAt W sb (so + 4) 1 3 4 1 := by
  have := (h.u.s.some_cells (by decide)).seat 1 (by decide)
  simpa [U1] using this
theorem TSt.kill0 (h : TSt w B1 B2 B3 B4 B5 B6 sb so sc kb ko kc pa pc v W) : W.cell? ⟨kb, ko, none⟩ = some (.int .i64 1) := by
  have := (h.u.k.some_cells (by decide)).int 0 (by decide)
  simpa [U1] using this
theorem told_code (v : Value) (W : World) (hE : Et W) (hf : FaultAt 2 1 1 v W) : Calls Tryz.prog 16 #[v] W fun e w' => e = .returned (.int .i64 2) ∧ Below W.heap.size W w' :=
  callsIn_wide.1 (Flt.Code_in 3 (by omega) v (2, 1, 1) [] W hE (hf.chain (by unfold I64; omega) (by unfold I64; omega) (by unfold I64; omega)))
theorem told_spot (v : Value) (W : World) (hE : Et W) (hf : FaultAt 2 1 1 v W) : Calls Tryz.prog 17 #[v] W fun e w' => e = .returned (.agg #[.int .i64 1, .int .i64 1]) ∧ Below W.heap.size W w' :=
  callsIn_wide.1 (Flt.Spot_in 3 (by omega) v [(2, 1, 1)] W hE (hf.chain (by unfold I64; omega) (by unfold I64; omega) (by unfold I64; omega)))
set_option maxHeartbeats 8000000 in
theorem told_any (w : World) (hL : Has0 w) : Calls Tryz.prog 10 #[] w fun e w' => e = .returned (.bool true) ∧ Below w.heap.size w w' := by
  have HL : Hid (Has0 w) := hL
  clear hL
  go_enter Tryz.func10, Tryz.ntmps10
  go_wp2_with fail
  refine (told_v1 w HL.out).mono ?_
  rintro e w1 ⟨sb, so, sc, kb, ko, kc, pa, pc, rfl, hu, hb⟩
  have al1 := below_alloc w1 (.cells #[.slice (some ⟨sb, so, none⟩) 2 sc, .int .i64 2, .int .i64 0, .slice (some ⟨kb, ko, none⟩) 1 kc, .slice pa 1 pc] 33)
  have p1 := hb.trans (al1.mono hb.size)
  have x1 := Box.fresh w1 33 #[.slice (some ⟨sb, so, none⟩) 2 sc, .int .i64 2, .int .i64 0, .slice (some ⟨kb, ko, none⟩) 1 kc, .slice pa 1 pc]
  have u1 := hu.next al1
  have l1 := HL.out.next p1
  clear hb al1 hu HL
  go_wp2_with fail
  refine (told_c2 _ l1).mono ?_
  rintro e w2 ⟨rfl, hb⟩
  have al := below_alloc w2 (.cells #[.int .i64 1, .int .i64 1] 27)
  have hbb := hb.trans (al.mono hb.size)
  have p2 := p1.trans (hbb.mono p1.size)
  have l2 := l1.next hbb
  replace x1 := x1.next hbb
  replace u1 := u1.next hbb
  have s2 := Box.fresh w2 27 #[.int .i64 1, .int .i64 1]
  clear hb al hbb p1 l1
  go_wp2_with fail
  refine (told_c3 _ l2).mono ?_
  rintro e w3 ⟨rfl, hb⟩
  have al := below_alloc w3 (.cells #[.int .i64 3, .int .i64 1] 27)
  have hbb := hb.trans (al.mono hb.size)
  have p3 := p2.trans (hbb.mono p2.size)
  have l3 := l2.next hbb
  replace x1 := x1.next hbb
  replace u1 := u1.next hbb
  replace s2 := s2.next hbb
  have s3 := Box.fresh w3 27 #[.int .i64 3, .int .i64 1]
  clear hb al hbb p2 l2
  go_wp2_with fail
  refine (told_c4 _ l3).mono ?_
  rintro e w4 ⟨rfl, hb⟩
  have al := below_alloc w4 (.cells #[.int .i64 3, .int .i64 6] 27)
  have hbb := hb.trans (al.mono hb.size)
  have p4 := p3.trans (hbb.mono p3.size)
  have l4 := l3.next hbb
  replace x1 := x1.next hbb
  replace u1 := u1.next hbb
  replace s2 := s2.next hbb
  replace s3 := s3.next hbb
  have s4 := Box.fresh w4 27 #[.int .i64 3, .int .i64 6]
  clear hb al hbb p3 l3
  go_wp2_with fail
  refine (told_c5 _ l4).mono ?_
  rintro e w5 ⟨rfl, hb⟩
  have al := below_alloc w5 (.cells #[.int .i64 1, .int .i64 5] 27)
  have hbb := hb.trans (al.mono hb.size)
  have p5 := p4.trans (hbb.mono p4.size)
  have l5 := l4.next hbb
  replace x1 := x1.next hbb
  replace u1 := u1.next hbb
  replace s2 := s2.next hbb
  replace s3 := s3.next hbb
  replace s4 := s4.next hbb
  have s5 := Box.fresh w5 27 #[.int .i64 1, .int .i64 5]
  clear hb al hbb p4 l4
  go_wp2_with fail
  refine (told_c6 _ l5).mono ?_
  rintro e w6 ⟨rfl, hb⟩
  have al := below_alloc w6 (.cells #[.int .i64 1, .int .i64 9] 27)
  have hbb := hb.trans (al.mono hb.size)
  have p6 := p5.trans (hbb.mono p5.size)
  have l6 := l5.next hbb
  replace x1 := x1.next hbb
  replace u1 := u1.next hbb
  replace s2 := s2.next hbb
  replace s3 := s3.next hbb
  replace s4 := s4.next hbb
  replace s5 := s5.next hbb
  have s6 := Box.fresh w6 27 #[.int .i64 1, .int .i64 9]
  clear hb al hbb p5 l5
  go_wp2_with fail
  refine (told_v7 _ l6).mono ?_
  rintro e w7 ⟨v, rfl, hf, hb⟩
  have st : TSt w w1.heap.size w2.heap.size w3.heap.size w4.heap.size w5.heap.size w6.heap.size sb so sc kb ko kc pa pc v w7 :=
    ⟨p6.trans (hb.mono p6.size), l6.next hb, x1.next hb, u1.next hb, s2.next hb, s3.next hb, s4.next hb, s5.next hb, s6.next hb, hf⟩
  clear hb x1 u1 s2 s3 s4 s5 s6 p6 l6 hf
  obtain ⟨fb, rfl, _⟩ := id st.f
  generalize w1.heap.size = B1 at st ⊢
  generalize w2.heap.size = B2 at st ⊢
  generalize w3.heap.size = B3 at st ⊢
  generalize w4.heap.size = B4 at st ⊢
  generalize w5.heap.size = B5 at st ⊢
  generalize w6.heap.size = B6 at st ⊢
  have i0 := st.x.cell 0 _ rfl
  have i1 := st.x.cell 1 _ rfl
  have i2 := st.x.cell 2 _ rfl
  have i3 := st.x.cell 3 _ rfl
  have i4 := st.x.cell 4 _ rfl
  have il := st.x.lt
  have j20 := st.s2.cell 0 _ rfl
  have j21 := st.s2.cell 1 _ rfl
  have jl2 := st.s2.lt
  have j30 := st.s3.cell 0 _ rfl
  have j31 := st.s3.cell 1 _ rfl
  have jl3 := st.s3.lt
  have j40 := st.s4.cell 0 _ rfl
  have j41 := st.s4.cell 1 _ rfl
  have jl4 := st.s4.lt
  have j50 := st.s5.cell 0 _ rfl
  have j51 := st.s5.cell 1 _ rfl
  have jl5 := st.s5.lt
  have j60 := st.s6.cell 0 _ rfl
  have j61 := st.s6.cell 1 _ rfl
  have jl6 := st.s6.lt
  have s0 := st.seat0.c0
  have s1 := st.seat0.c1
  have s2 := st.seat0.c2
  have s3 := st.seat0.c3
  have t0 := st.seat1.c0
  have t1 := st.seat1.c1
  have t2 := st.seat1.c2
  have t3 := st.seat1.c3
  have sl := (st.u.s.some_cells (by decide)).1
  have k0 := st.kill0
  have kl := (st.u.k.some_cells (by decide)).1
  have ST : Hid (TSt w B1 B2 B3 B4 B5 B6 sb so sc kb ko kc pa pc (.iface 80 (.pointer (some ⟨fb, 0, none⟩))) (w7.alloc (.cells #[.slice none 0 0, .int .i64 0, .int .i64 0, .slice none 0 0, .slice none 0 0] 33))) := st.next (below_alloc _ _)
  clear st
  simp only [Nat.add_assoc, Nat.reduceAdd] at s0 s1 s2 s3 t0 t1 t2 t3
  go_wp2_with fail
  refine (told_code _ _ ST.out.lean.et ST.out.f).mono ?_
  rintro e w8 ⟨rfl, hb8⟩
  have ST8 : Hid (TSt w B1 B2 B3 B4 B5 B6 sb so sc kb ko kc pa pc (.iface 80 (.pointer (some ⟨fb, 0, none⟩))) w8) := ST.out.next hb8
  clear hb8 ST
  go_wp2_with fail
  refine (told_spot _ _ ST8.out.lean.et ST8.out.f).mono ?_
  rintro e w9 ⟨rfl, hb9⟩
  have st9 := (ST8.out.next hb9).past
  clear hb9
  go_wp2
  go_ret
  exact ⟨rfl, st9⟩
end Go.Proofs.YtpkjhlcolgoknaaGreatDoor.Par

namespace Go.Proofs.YtpkjhlcolgoknaaGreatDoor.Par
set_option linter.unusedVariables false
set_option maxRecDepth 100000
open Go.Proofs.YtpkjhlcolgoknaaGreatDoor.Ven (Seat Pole Ven)

theorem span_nl (p : UInt8 → Bool) (hp : p 10 = false) (y : List UInt8) : ∀ v : List UInt8, Tok.spanL p (v ++ 10 :: y) = Tok.spanL p v
  | [] => by rw [List.nil_append, Tok.spanL_cons, hp]; rfl
  | c :: v => by rw [List.cons_append, Tok.spanL_cons, Tok.spanL_cons, span_nl p hp y v]
theorem unsaid_nl (v y : List UInt8) : Tok.unsaidL (v ++ 10 :: y) = Tok.unsaidL v := by
  have hs := Tok.spanL_le Tok.blankB v
  unfold Tok.unsaidL
  rw [span_nl _ (by decide), List.drop_append_of_le_length hs]
  generalize v.drop (Tok.spanL Tok.blankB v) = t
  cases t with
  | nil => rfl
  | cons c t =>
    have e := span_nl Tok.lineB (by decide) y (c :: t)
    rw [List.cons_append] at e ⊢
    rw [e]
    rfl
theorem unsaid_le_nl (v : List UInt8) : Tok.unsaidL v ≤ v.length := Tok.unsaidL_le v
theorem badW_nl (t y : List UInt8) : Tok.badW (t ++ 10 :: y) = Tok.badW t := by cases t <;> rfl
theorem badN_nl (t y : List UInt8) : Tok.badN (t ++ 10 :: y) = Tok.badN t := by cases t <;> rfl
theorem word_nl (v y : List UInt8) : Tok.wordL (v ++ 10 :: y) = Tok.wordL v := by
  have hs := Tok.spanL_le Tok.letterB v
  unfold Tok.wordL
  rw [span_nl _ (by decide), List.drop_append_of_le_length hs, badW_nl, List.take_append_of_le_length hs]
theorem num_nl (c : UInt8) (v y : List UInt8) : Tok.numL (c :: v ++ 10 :: y) = Tok.numL (c :: v) := by
  have hs := Tok.spanL_le Tok.digitB v
  have hl : 1 + Tok.spanL Tok.digitB v ≤ (c :: v).length := by simp; omega
  unfold Tok.numL
  rw [show (c :: v ++ 10 :: y).tail = v ++ 10 :: y from rfl, show (c :: v).tail = v from rfl, span_nl _ (by decide), List.drop_append_of_le_length hl, badN_nl, List.take_append_of_le_length hl]
theorem read_nl (c : UInt8) (v y : List UInt8) : Tok.readL (c :: v ++ 10 :: y) = Tok.readL (c :: v) := by
  have hw := word_nl (c :: v) y
  have hn := num_nl c v y
  rw [List.cons_append] at hw hn ⊢
  unfold Tok.readL
  dsimp only
  rw [hw, hn, span_nl _ (by decide)]
/-- A text whose first part ends with its line. -/
theorem all_nl : ∀ (n : Nat) (v y : List UInt8) (li co : Int), v.length ≤ n →
    (∃ ts li', Tok.allP (v ++ [10]) li co = (ts, li', 1, 0) ∧ Tok.allP (v ++ 10 :: y) li co = (ts ++ (Tok.allP y li' 1).1, (Tok.allP y li' 1).2)) ∨
    ((Tok.allP (v ++ [10]) li co).2.2.2 = 2 ∧ Tok.allP (v ++ 10 :: y) li co = Tok.allP (v ++ [10]) li co) := by
  intro n
  induction n with
  | zero =>
    intro v y li co hv
    have hv0 : v = [] := List.length_eq_zero_iff.1 (by omega)
    subst hv0
    left
    have u0 : ∀ z : List UInt8, Tok.unsaidL (10 :: z) = 0 := fun z => (unsaid_nl [] z).trans rfl
    have r0 : ∀ z : List UInt8, Tok.readL (10 :: z) = (3, 0, [], 1, true) := fun z => rfl
    refine ⟨[(3, 0, li, co, [])], li + 1, ?_, ?_⟩
    · rw [List.nil_append, Tok.allP_step [10] li co 3 0 [] 1 (by rw [u0]; simp) (by rw [u0]; exact r0 [])]
      rw [u0]
      simp [Tok.allP_none [] (li + 1) 1 rfl]
    · rw [List.nil_append, Tok.allP_step (10 :: y) li co 3 0 [] 1 (by rw [u0]; simp) (by rw [u0]; exact r0 y)]
      rw [u0]
      simp
  | succ n ih =>
    intro v y li co hv
    have hk := unsaid_le_nl v
    have hu : ∀ z, Tok.unsaidL (v ++ 10 :: z) = Tok.unsaidL v := unsaid_nl v
    have hlt : ∀ z : List UInt8, Tok.unsaidL (v ++ 10 :: z) < (v ++ 10 :: z).length := fun z => by rw [hu]; simp; omega
    have hd : ∀ z : List UInt8, (v ++ 10 :: z).drop (Tok.unsaidL (v ++ 10 :: z)) = v.drop (Tok.unsaidL v) ++ 10 :: z := fun z => by rw [hu, List.drop_append_of_le_length hk]
    have hdl : (v.drop (Tok.unsaidL v)).length = v.length - Tok.unsaidL v := List.length_drop
    cases ht : v.drop (Tok.unsaidL v) with
    | nil =>
      rw [ht] at hd hdl
      have hkl : Tok.unsaidL v = v.length := by simp at hdl; omega
      left
      refine ⟨[(3, 0, li, co + (Tok.unsaidL v : Nat), [])], li + 1, ?_, ?_⟩
      · rw [Tok.allP_step (v ++ [10]) li co 3 0 [] 1 (hlt []) (by rw [hd []]; rfl), hu []]
        have : (v ++ [10]).drop (Tok.unsaidL v + 1) = [] := by rw [List.drop_of_length_le]; simp; omega
        rw [this]
        simp [Tok.allP_none [] (li + 1) 1 rfl]
      · rw [Tok.allP_step (v ++ 10 :: y) li co 3 0 [] 1 (hlt y) (by rw [hd y]; rfl), hu y]
        have : (v ++ 10 :: y).drop (Tok.unsaidL v + 1) = y := by rw [hkl, ← List.drop_drop, List.drop_left]; rfl
        rw [this]
        simp
    | cons c t =>
      rw [ht] at hd hdl
      have hrd : ∀ z, Tok.readL ((v ++ 10 :: z).drop (Tok.unsaidL (v ++ 10 :: z))) = Tok.readL (c :: t) := fun z => by rw [hd z]; exact read_nl c t z
      have hle := Tok.readL_le (c :: t)
      have hok := Tok.readL_ok (c :: t)
      rcases hg : Tok.readL (c :: t) with ⟨gk, gn, gt, gs, ok⟩
      rw [hg] at hle hok
      cases ok with
      | false =>
        right
        have e1 := Tok.allP_text (v ++ [10]) li co gk gn gt gs (hlt []) ((hrd []).trans hg)
        have e2 := Tok.allP_text (v ++ 10 :: y) li co gk gn gt gs (hlt y) ((hrd y).trans hg)
        rw [e1, e2, hu, hu]
        exact ⟨rfl, rfl⟩
      | true =>
        obtain ⟨h1, _⟩ := hok rfl
        simp only at h1 hle
        have hkg : Tok.unsaidL v + gs ≤ v.length := by simp at hdl hle; omega
        have e1 := Tok.allP_step (v ++ [10]) li co gk gn gt gs (hlt []) ((hrd []).trans hg)
        have e2 := Tok.allP_step (v ++ 10 :: y) li co gk gn gt gs (hlt y) ((hrd y).trans hg)
        rw [hu, List.drop_append_of_le_length hkg] at e1
        rw [hu, List.drop_append_of_le_length hkg] at e2
        rcases ih (v.drop (Tok.unsaidL v + gs)) y (if gk = 3 then li + 1 else li) (if gk = 3 then 1 else co + (Tok.unsaidL v : Nat) + gs) (by rw [List.length_drop]; omega) with ⟨ts, li', i1, i2⟩ | ⟨i1, i2⟩
        · left
          refine ⟨(gk, gn, li, co + (Tok.unsaidL v : Nat), gt) :: ts, li', ?_, ?_⟩
          · rw [e1, i1]
          · rw [e2, i2]; rfl
        · right
          rw [e1, e2, i2]
          exact ⟨i1, rfl⟩
/-- The lines of tokens, without places. -/
def linesD (e : Int × Int) : Nat → List T → St → Except (Int × Int) St
  | 0, _, s => .ok s
  | f + 1, r, s => if r = [] then .ok s else
      match lineL (r.take (Tok.lineLen r)) (if Tok.lineLen r < r.length then spotT (r[Tok.lineLen r]!) else e) s with
      | .error p => .error p
      | .ok s' => linesD e f (r.drop (Tok.lineLen r + 1)) s'
theorem linesD_of (ts : List T) (e : Int × Int) : ∀ (f a : Nat) (s : St), linesL ts e f a s = linesD e f (ts.drop a) s
  | 0, a, s => rfl
  | f + 1, a, s => by
    rw [linesL_succ]
    unfold linesD
    by_cases ha : a < ts.length
    · have hne : ¬ ts.drop a = [] := fun hc => by have := congrArg List.length hc; rw [List.length_drop] at this; simp at this; omega
      have hdl : (ts.drop a).length = ts.length - a := List.length_drop
      have hle := Tok.lineLen_le (ts.drop a)
      rw [if_pos ha, if_neg hne]
      have he : endL ts a e = if Tok.lineLen (ts.drop a) < (ts.drop a).length then spotT ((ts.drop a)[Tok.lineLen (ts.drop a)]!) else e := by
        unfold endL
        by_cases h : a + Tok.lineLen (ts.drop a) < ts.length
        · rw [if_pos h, if_pos (by omega), getElem!_pos ts _ h, getElem!_pos (ts.drop a) _ (by omega), List.getElem_drop]
        · rw [if_neg h, if_neg (by omega)]
      rw [he]
      have hn : ts.drop (Tok.lineNext ts a).toNat = (ts.drop a).drop (Tok.lineLen (ts.drop a) + 1) := by
        unfold Tok.lineNext
        rw [List.drop_drop]
        by_cases h : a + Tok.lineLen (ts.drop a) < ts.length
        · rw [if_pos h]; congr 1
        · rw [if_neg h, List.drop_of_length_le (by omega), List.drop_of_length_le (by omega)]
      unfold Tok.lineTs
      cases lineL ((ts.drop a).take (Tok.lineLen (ts.drop a))) (if Tok.lineLen (ts.drop a) < (ts.drop a).length then spotT ((ts.drop a)[Tok.lineLen (ts.drop a)]!) else e) s with
      | error p => rfl
      | ok s' => simp only []; rw [linesD_of ts e f _ s', hn]
    · rw [if_neg ha, if_pos (List.drop_of_length_le (by omega))]
theorem linesD_fuel (e : Int × Int) : ∀ (n : Nat) (r : List T) (s : St) (f f' : Nat), r.length ≤ n → r.length < f → r.length < f' → linesD e f r s = linesD e f' r s := by
  intro n
  induction n with
  | zero =>
    intro r s f f' hr hf hf'
    have : r = [] := List.length_eq_zero_iff.1 (by omega)
    subst this
    cases f with
    | zero => omega
    | succ f => cases f' with
      | zero => omega
      | succ f' => rfl
  | succ n ih =>
    intro r s f f' hr hf hf'
    cases f with
    | zero => omega
    | succ f =>
      cases f' with
      | zero => omega
      | succ f' =>
        unfold linesD
        by_cases hne : r = []
        · rw [if_pos hne, if_pos hne]
        · have hlen : 0 < r.length := Nat.pos_of_ne_zero fun hc => hne (List.length_eq_zero_iff.1 hc)
          rw [if_neg hne, if_neg hne]
          cases lineL (r.take (Tok.lineLen r)) (if Tok.lineLen r < r.length then spotT (r[Tok.lineLen r]!) else e) s with
          | error p => rfl
          | ok s' =>
            simp only []
            exact ih _ s' f f' (by rw [List.length_drop]; omega) (by rw [List.length_drop]; omega) (by rw [List.length_drop]; omega)
def linesE (e : Int × Int) (r : List T) (s : St) : Except (Int × Int) St := linesD e (r.length + 1) r s
theorem linesE_nil (e : Int × Int) (s : St) : linesE e [] s = .ok s := rfl
theorem lineLen_line : ∀ (u : List T) (t : T) (r : List T), (∀ x ∈ u, Tok.endB x = false) → Tok.endB t = true → Tok.lineLen (u ++ t :: r) = u.length
  | [], t, r, _, ht => by rw [List.nil_append, Tok.lineLen_cons, ht]; rfl
  | x :: u, t, r, hu, ht => by rw [List.cons_append, Tok.lineLen_cons, hu x List.mem_cons_self, lineLen_line u t r (fun y hy => hu y (List.mem_cons_of_mem _ hy)) ht]; rfl
theorem linesE_line (e : Int × Int) (u : List T) (t : T) (r : List T) (s : St) (hu : ∀ x ∈ u, Tok.endB x = false) (ht : Tok.endB t = true) :
    linesE e (u ++ t :: r) s = match lineL u (spotT t) s with | .error p => .error p | .ok s' => linesE e r s' := by
  have hl := lineLen_line u t r hu ht
  unfold linesE
  rw [linesD, if_neg (by simp), hl, List.take_left]
  have h1 : u.length < (u ++ t :: r).length := by simp
  rw [if_pos h1, getElem!_pos (u ++ t :: r) u.length h1]
  have h2 : (u ++ t :: r)[u.length]'h1 = t := by simp
  rw [h2]
  cases lineL u (spotT t) s with
  | error p => rfl
  | ok s' =>
    simp only []
    have h3 : (u ++ t :: r).drop (u.length + 1) = r := by rw [← List.drop_drop, List.drop_left]; rfl
    rw [h3]
    exact linesD_fuel e r.length r s' _ _ (Nat.le_refl _) (by simp; omega) (by omega)
/-- A text from its line on: how its tokens end, and the state behind its lines. -/
def scan (l : List UInt8) (li : Int) (s : St) : (Int × Int × Int) × Except (Int × Int) St := ((Tok.allP l li 1).2, linesE ((Tok.allP l li 1).2.1, (Tok.allP l li 1).2.2.1) (Tok.allP l li 1).1 s)
theorem scan_nil (li : Int) (s : St) : scan [] li s = ((li, 1, 0), .ok s) := by
  unfold scan
  rw [Tok.allP_none [] li 1 rfl]
  simp [linesE_nil]
theorem scan_line (v y : List UInt8) (li li' : Int) (u : List T) (t : T) (s : St) (hA : Tok.allP (v ++ [10]) li 1 = (u ++ [t], li', 1, 0)) (hu : ∀ x ∈ u, Tok.endB x = false) (ht : Tok.endB t = true) :
    scan (v ++ 10 :: y) li s = match lineL u (spotT t) s with | .error p => ((Tok.allP y li' 1).2, .error p) | .ok s' => scan y li' s' := by
  rcases all_nl v.length v y li 1 (Nat.le_refl _) with ⟨ts, l2, h1, h2⟩ | ⟨h1, _⟩
  · rw [hA] at h1
    simp only [Prod.mk.injEq, and_true] at h1
    obtain ⟨rfl, rfl⟩ := h1
    unfold scan
    rw [h2, List.append_assoc, List.singleton_append, linesE_line _ u t _ s hu ht]
    cases lineL u (spotT t) s <;> rfl
  · rw [hA] at h1; cases h1
theorem readL_scan {l : List UInt8} (h : ¬ 1048576 < l.length) : readL l = if (scan l 1 St.zero).1.2.2 = 0 then (match (scan l 1 St.zero).2 with | .error p => .error (2, p) | .ok s => (match wholeL s ((scan l 1 St.zero).1.1, (scan l 1 St.zero).1.2.1) with | .error p => .error (2, p) | .ok V => .ok V)) else .error ((scan l 1 St.zero).1.2.2, (scan l 1 St.zero).1.1, (scan l 1 St.zero).1.2.1) := by
  unfold readL scan
  rw [if_neg h, Tok.allOf_P]
  rcases Tok.allP l 1 1 with ⟨ts, li, co, code⟩
  simp only []
  unfold linesE
  rw [linesD_of ts (li, co) (ts.length + 1) 0 St.zero, List.drop_zero]
  by_cases hc : code = 0
  · rw [if_pos hc, if_pos hc]
    cases linesD (li, co) (ts.length + 1) ts St.zero with
    | error p => rfl
    | ok s => simp only []; cases wholeL s (li, co) <;> rfl
  · rw [if_neg hc, if_neg hc]
end Go.Proofs.YtpkjhlcolgoknaaGreatDoor.Par

namespace Go.Proofs.YtpkjhlcolgoknaaGreatDoor.Par
set_option linter.unusedVariables false
set_option maxRecDepth 100000
open Go.Proofs.YtpkjhlcolgoknaaGreatDoor.Ven (Seat Pole Ven)

def firstB : List UInt8 := [103, 97, 112, 32, 49, 48, 10, 115, 101, 97, 116, 32, 48, 32, 48, 32, 48, 10]
def firstP (w : Nat) : List UInt8 := match w with
  | 0 => [99, 104, 97, 105, 114, 32, 49, 32, 49, 32, 49]
  | 1 => [103, 97, 112, 32, 49, 48]
  | 2 => [115, 101, 97, 116, 32, 48, 32, 48, 32, 48]
  | 3 => [115, 101, 97, 116, 32, 49]
  | 4 => [115, 101, 97, 116, 32, 49, 32, 120, 32, 50]
  | 5 => [115, 101, 97, 116, 32, 49, 32, 49, 32, 49, 32, 49]
  | 6 => [115, 101, 97, 116, 32, 45, 49, 32, 48, 32, 48]
  | 7 => [114, 97, 100, 105, 117, 115, 32, 48, 32, 48]
  | 8 => [112, 111, 108, 101, 32, 49, 32, 49, 32, 48]
  | _ => [53]
def firstC (w : Nat) : Int := match w with
  | 0 => 1
  | 1 => 1
  | 2 => 1
  | 3 => 7
  | 4 => 8
  | 5 => 12
  | 6 => 6
  | 7 => 10
  | 8 => 10
  | _ => 1
def digB (i : Nat) : List UInt8 := [UInt8.ofNat (48 + i)]
/-- So many well lines. -/
def aheadB : Nat → List UInt8
  | 0 => []
  | k + 1 => aheadB k ++ ([115, 101, 97, 116, 32, 50, 32] ++ digB (k % 10) ++ [32, 48, 10])
def behindB : Nat → List UInt8
  | 0 => []
  | k + 1 => behindB k ++ ([115, 101, 97, 116, 32, 51, 32] ++ digB k ++ [32, 48, 10, 113, 10])
def firstT (k m w : Nat) : List UInt8 := firstB ++ aheadB k ++ firstP w ++ [10] ++ behindB m
theorem tk_gap (li : Int) : Tok.allP ([103, 97, 112, 32, 49, 48] ++ [10]) li 1 = ([(1, 0, li, 1, [103, 97, 112]), (2, 10, li, 5, [49, 48])] ++ [(3, 0, li, 7, [])], li + 1, 1, 0) := by kernel_rfl
theorem tk_seat (li : Int) : Tok.allP ([115, 101, 97, 116, 32, 48, 32, 48, 32, 48] ++ [10]) li 1 = ([(1, 0, li, 1, [115, 101, 97, 116]), (2, 0, li, 6, [48]), (2, 0, li, 8, [48]), (2, 0, li, 10, [48])] ++ [(3, 0, li, 11, [])], li + 1, 1, 0) := by kernel_rfl
theorem tk_a0 (li : Int) : Tok.allP ([115, 101, 97, 116, 32, 50, 32, 48, 32, 48] ++ [10]) li 1 = ([(1, 0, li, 1, [115, 101, 97, 116]), (2, 2, li, 6, [50]), (2, 0, li, 8, [48]), (2, 0, li, 10, [48])] ++ [(3, 0, li, 11, [])], li + 1, 1, 0) := by kernel_rfl
theorem tk_a1 (li : Int) : Tok.allP ([115, 101, 97, 116, 32, 50, 32, 49, 32, 48] ++ [10]) li 1 = ([(1, 0, li, 1, [115, 101, 97, 116]), (2, 2, li, 6, [50]), (2, 1, li, 8, [49]), (2, 0, li, 10, [48])] ++ [(3, 0, li, 11, [])], li + 1, 1, 0) := by kernel_rfl
theorem tk_a2 (li : Int) : Tok.allP ([115, 101, 97, 116, 32, 50, 32, 50, 32, 48] ++ [10]) li 1 = ([(1, 0, li, 1, [115, 101, 97, 116]), (2, 2, li, 6, [50]), (2, 2, li, 8, [50]), (2, 0, li, 10, [48])] ++ [(3, 0, li, 11, [])], li + 1, 1, 0) := by kernel_rfl
theorem tk_a3 (li : Int) : Tok.allP ([115, 101, 97, 116, 32, 50, 32, 51, 32, 48] ++ [10]) li 1 = ([(1, 0, li, 1, [115, 101, 97, 116]), (2, 2, li, 6, [50]), (2, 3, li, 8, [51]), (2, 0, li, 10, [48])] ++ [(3, 0, li, 11, [])], li + 1, 1, 0) := by kernel_rfl
theorem tk_a4 (li : Int) : Tok.allP ([115, 101, 97, 116, 32, 50, 32, 52, 32, 48] ++ [10]) li 1 = ([(1, 0, li, 1, [115, 101, 97, 116]), (2, 2, li, 6, [50]), (2, 4, li, 8, [52]), (2, 0, li, 10, [48])] ++ [(3, 0, li, 11, [])], li + 1, 1, 0) := by kernel_rfl
theorem tk_a5 (li : Int) : Tok.allP ([115, 101, 97, 116, 32, 50, 32, 53, 32, 48] ++ [10]) li 1 = ([(1, 0, li, 1, [115, 101, 97, 116]), (2, 2, li, 6, [50]), (2, 5, li, 8, [53]), (2, 0, li, 10, [48])] ++ [(3, 0, li, 11, [])], li + 1, 1, 0) := by kernel_rfl
theorem tk_a6 (li : Int) : Tok.allP ([115, 101, 97, 116, 32, 50, 32, 54, 32, 48] ++ [10]) li 1 = ([(1, 0, li, 1, [115, 101, 97, 116]), (2, 2, li, 6, [50]), (2, 6, li, 8, [54]), (2, 0, li, 10, [48])] ++ [(3, 0, li, 11, [])], li + 1, 1, 0) := by kernel_rfl
theorem tk_a7 (li : Int) : Tok.allP ([115, 101, 97, 116, 32, 50, 32, 55, 32, 48] ++ [10]) li 1 = ([(1, 0, li, 1, [115, 101, 97, 116]), (2, 2, li, 6, [50]), (2, 7, li, 8, [55]), (2, 0, li, 10, [48])] ++ [(3, 0, li, 11, [])], li + 1, 1, 0) := by kernel_rfl
theorem tk_a8 (li : Int) : Tok.allP ([115, 101, 97, 116, 32, 50, 32, 56, 32, 48] ++ [10]) li 1 = ([(1, 0, li, 1, [115, 101, 97, 116]), (2, 2, li, 6, [50]), (2, 8, li, 8, [56]), (2, 0, li, 10, [48])] ++ [(3, 0, li, 11, [])], li + 1, 1, 0) := by kernel_rfl
theorem tk_a9 (li : Int) : Tok.allP ([115, 101, 97, 116, 32, 50, 32, 57, 32, 48] ++ [10]) li 1 = ([(1, 0, li, 1, [115, 101, 97, 116]), (2, 2, li, 6, [50]), (2, 9, li, 8, [57]), (2, 0, li, 10, [48])] ++ [(3, 0, li, 11, [])], li + 1, 1, 0) := by kernel_rfl
theorem tk_b0 (li : Int) : Tok.allP ([99, 104, 97, 105, 114, 32, 49, 32, 49, 32, 49] ++ [10]) li 1 = ([(1, 0, li, 1, [99, 104, 97, 105, 114]), (2, 1, li, 7, [49]), (2, 1, li, 9, [49]), (2, 1, li, 11, [49])] ++ [(3, 0, li, 12, [])], li + 1, 1, 0) := by kernel_rfl
theorem tk_b1 (li : Int) : Tok.allP ([103, 97, 112, 32, 49, 48] ++ [10]) li 1 = ([(1, 0, li, 1, [103, 97, 112]), (2, 10, li, 5, [49, 48])] ++ [(3, 0, li, 7, [])], li + 1, 1, 0) := by kernel_rfl
theorem tk_b2 (li : Int) : Tok.allP ([115, 101, 97, 116, 32, 48, 32, 48, 32, 48] ++ [10]) li 1 = ([(1, 0, li, 1, [115, 101, 97, 116]), (2, 0, li, 6, [48]), (2, 0, li, 8, [48]), (2, 0, li, 10, [48])] ++ [(3, 0, li, 11, [])], li + 1, 1, 0) := by kernel_rfl
theorem tk_b3 (li : Int) : Tok.allP ([115, 101, 97, 116, 32, 49] ++ [10]) li 1 = ([(1, 0, li, 1, [115, 101, 97, 116]), (2, 1, li, 6, [49])] ++ [(3, 0, li, 7, [])], li + 1, 1, 0) := by kernel_rfl
theorem tk_b4 (li : Int) : Tok.allP ([115, 101, 97, 116, 32, 49, 32, 120, 32, 50] ++ [10]) li 1 = ([(1, 0, li, 1, [115, 101, 97, 116]), (2, 1, li, 6, [49]), (1, 0, li, 8, [120]), (2, 2, li, 10, [50])] ++ [(3, 0, li, 11, [])], li + 1, 1, 0) := by kernel_rfl
theorem tk_b5 (li : Int) : Tok.allP ([115, 101, 97, 116, 32, 49, 32, 49, 32, 49, 32, 49] ++ [10]) li 1 = ([(1, 0, li, 1, [115, 101, 97, 116]), (2, 1, li, 6, [49]), (2, 1, li, 8, [49]), (2, 1, li, 10, [49]), (2, 1, li, 12, [49])] ++ [(3, 0, li, 13, [])], li + 1, 1, 0) := by kernel_rfl
theorem tk_b6 (li : Int) : Tok.allP ([115, 101, 97, 116, 32, 45, 49, 32, 48, 32, 48] ++ [10]) li 1 = ([(1, 0, li, 1, [115, 101, 97, 116]), (2, -1, li, 6, [45, 49]), (2, 0, li, 9, [48]), (2, 0, li, 11, [48])] ++ [(3, 0, li, 12, [])], li + 1, 1, 0) := by kernel_rfl
theorem tk_b7 (li : Int) : Tok.allP ([114, 97, 100, 105, 117, 115, 32, 48, 32, 48] ++ [10]) li 1 = ([(1, 0, li, 1, [114, 97, 100, 105, 117, 115]), (2, 0, li, 8, [48]), (2, 0, li, 10, [48])] ++ [(3, 0, li, 11, [])], li + 1, 1, 0) := by kernel_rfl
theorem tk_b8 (li : Int) : Tok.allP ([112, 111, 108, 101, 32, 49, 32, 49, 32, 48] ++ [10]) li 1 = ([(1, 0, li, 1, [112, 111, 108, 101]), (2, 1, li, 6, [49]), (2, 1, li, 8, [49]), (2, 0, li, 10, [48])] ++ [(3, 0, li, 11, [])], li + 1, 1, 0) := by kernel_rfl
theorem tk_b9 (li : Int) : Tok.allP ([53] ++ [10]) li 1 = ([(2, 5, li, 1, [53])] ++ [(3, 0, li, 2, [])], li + 1, 1, 0) := by kernel_rfl
theorem tk_m0 (li : Int) : (Tok.allP (behindB 0) li 1).2.2.2 = 0 := by kernel_rfl
theorem tk_m1 (li : Int) : (Tok.allP (behindB 1) li 1).2.2.2 = 0 := by kernel_rfl
theorem tk_m2 (li : Int) : (Tok.allP (behindB 2) li 1).2.2.2 = 0 := by kernel_rfl
theorem tk_m3 (li : Int) : (Tok.allP (behindB 3) li 1).2.2.2 = 0 := by kernel_rfl
theorem tk_m4 (li : Int) : (Tok.allP (behindB 4) li 1).2.2.2 = 0 := by kernel_rfl
theorem tk_m5 (li : Int) : (Tok.allP (behindB 5) li 1).2.2.2 = 0 := by kernel_rfl
def stF (k : Nat) : St := ⟨⟨0, 0, 0, 0⟩ :: (List.range k).map (fun i : Nat => (⟨2, (i : Int), 0, 0⟩ : Seat)), 10, 0, false, [], []⟩
theorem step_line {v y : List UInt8} {li : Int} {u : List T} {t : T} {s s' : St} (hA : Tok.allP (v ++ [10]) li 1 = (u ++ [t], li + 1, 1, 0)) (hu : ∀ x ∈ u, Tok.endB x = false) (ht : Tok.endB t = true) (hl : lineL u (spotT t) s = .ok s') : scan (v ++ 10 :: y) li s = scan y (li + 1) s' := by
  rw [scan_line v y li (li + 1) u t s hA hu ht, hl]
theorem bad_line {v y : List UInt8} {li : Int} {u : List T} {t : T} {s : St} {p : Int × Int} (hA : Tok.allP (v ++ [10]) li 1 = (u ++ [t], li + 1, 1, 0)) (hu : ∀ x ∈ u, Tok.endB x = false) (ht : Tok.endB t = true) (hl : lineL u (spotT t) s = .error p) : scan (v ++ 10 :: y) li s = ((Tok.allP y (li + 1) 1).2, .error p) := by
  rw [scan_line v y li (li + 1) u t s hA hu ht, hl]
theorem first_head (y : List UInt8) : scan (firstB ++ y) 1 St.zero = scan y 3 (stF 0) := by
  have e : firstB ++ y = [103, 97, 112, 32, 49, 48] ++ 10 :: ([115, 101, 97, 116, 32, 48, 32, 48, 32, 48] ++ 10 :: y) := rfl
  rw [e, step_line (s' := ⟨[], 10, 0, false, [], []⟩) (tk_gap 1) (by simp [Tok.endB]) rfl (by kernel_rfl), step_line (s' := stF 0) (tk_seat (1 + 1)) (by simp [Tok.endB]) rfl (by kernel_rfl)]
  rfl
theorem first_ahead : ∀ (k : Nat), k ≤ 10 → ∀ y, scan (firstB ++ (aheadB k ++ y)) 1 St.zero = scan y ((k : Int) + 3) (stF k)
  | 0, _, y => first_head y
  | k + 1, hk, y => by
    have e : firstB ++ (aheadB (k + 1) ++ y) = firstB ++ (aheadB k ++ ([115, 101, 97, 116, 32, 50, 32] ++ digB (k % 10) ++ [32, 48, 10] ++ y)) := by
      simp only [aheadB, List.append_assoc]
    rw [e, first_ahead k (by omega)]
    have hk' : k < 10 := by omega
    have hc : k = 0 ∨ k = 1 ∨ k = 2 ∨ k = 3 ∨ k = 4 ∨ k = 5 ∨ k = 6 ∨ k = 7 ∨ k = 8 ∨ k = 9 := by omega
    clear e hk hk'
    rcases hc with rfl | rfl | rfl | rfl | rfl | rfl | rfl | rfl | rfl | rfl
    · exact step_line (v := [115, 101, 97, 116, 32, 50, 32, 48, 32, 48]) (s' := stF 1) (tk_a0 3) (by simp [Tok.endB]) rfl (by kernel_rfl)
    · exact step_line (v := [115, 101, 97, 116, 32, 50, 32, 49, 32, 48]) (s' := stF 2) (tk_a1 4) (by simp [Tok.endB]) rfl (by kernel_rfl)
    · exact step_line (v := [115, 101, 97, 116, 32, 50, 32, 50, 32, 48]) (s' := stF 3) (tk_a2 5) (by simp [Tok.endB]) rfl (by kernel_rfl)
    · exact step_line (v := [115, 101, 97, 116, 32, 50, 32, 51, 32, 48]) (s' := stF 4) (tk_a3 6) (by simp [Tok.endB]) rfl (by kernel_rfl)
    · exact step_line (v := [115, 101, 97, 116, 32, 50, 32, 52, 32, 48]) (s' := stF 5) (tk_a4 7) (by simp [Tok.endB]) rfl (by kernel_rfl)
    · exact step_line (v := [115, 101, 97, 116, 32, 50, 32, 53, 32, 48]) (s' := stF 6) (tk_a5 8) (by simp [Tok.endB]) rfl (by kernel_rfl)
    · exact step_line (v := [115, 101, 97, 116, 32, 50, 32, 54, 32, 48]) (s' := stF 7) (tk_a6 9) (by simp [Tok.endB]) rfl (by kernel_rfl)
    · exact step_line (v := [115, 101, 97, 116, 32, 50, 32, 55, 32, 48]) (s' := stF 8) (tk_a7 10) (by simp [Tok.endB]) rfl (by kernel_rfl)
    · exact step_line (v := [115, 101, 97, 116, 32, 50, 32, 56, 32, 48]) (s' := stF 9) (tk_a8 11) (by simp [Tok.endB]) rfl (by kernel_rfl)
    · exact step_line (v := [115, 101, 97, 116, 32, 50, 32, 57, 32, 48]) (s' := stF 10) (tk_a9 12) (by simp [Tok.endB]) rfl (by kernel_rfl)
theorem first_bad (k w : Nat) (hk : k < 11) (hw : w < 10) (y : List UInt8) : scan (firstP w ++ 10 :: y) ((k : Int) + 3) (stF k) = ((Tok.allP y ((k : Int) + 3 + 1) 1).2, .error ((k : Int) + 3, firstC w)) := by
  have hc : k = 0 ∨ k = 1 ∨ k = 2 ∨ k = 3 ∨ k = 4 ∨ k = 5 ∨ k = 6 ∨ k = 7 ∨ k = 8 ∨ k = 9 ∨ k = 10 := by omega
  have hv : w = 0 ∨ w = 1 ∨ w = 2 ∨ w = 3 ∨ w = 4 ∨ w = 5 ∨ w = 6 ∨ w = 7 ∨ w = 8 ∨ w = 9 := by omega
  clear hk hw
  rcases hv with rfl | rfl | rfl | rfl | rfl | rfl | rfl | rfl | rfl | rfl
  · rcases hc with rfl | rfl | rfl | rfl | rfl | rfl | rfl | rfl | rfl | rfl | rfl <;> exact bad_line (v := [99, 104, 97, 105, 114, 32, 49, 32, 49, 32, 49]) (tk_b0 _) (by simp [Tok.endB]) rfl (by kernel_rfl)
  · rcases hc with rfl | rfl | rfl | rfl | rfl | rfl | rfl | rfl | rfl | rfl | rfl <;> exact bad_line (v := [103, 97, 112, 32, 49, 48]) (tk_b1 _) (by simp [Tok.endB]) rfl (by kernel_rfl)
  · rcases hc with rfl | rfl | rfl | rfl | rfl | rfl | rfl | rfl | rfl | rfl | rfl <;> exact bad_line (v := [115, 101, 97, 116, 32, 48, 32, 48, 32, 48]) (tk_b2 _) (by simp [Tok.endB]) rfl (by kernel_rfl)
  · rcases hc with rfl | rfl | rfl | rfl | rfl | rfl | rfl | rfl | rfl | rfl | rfl <;> exact bad_line (v := [115, 101, 97, 116, 32, 49]) (tk_b3 _) (by simp [Tok.endB]) rfl (by kernel_rfl)
  · rcases hc with rfl | rfl | rfl | rfl | rfl | rfl | rfl | rfl | rfl | rfl | rfl <;> exact bad_line (v := [115, 101, 97, 116, 32, 49, 32, 120, 32, 50]) (tk_b4 _) (by simp [Tok.endB]) rfl (by kernel_rfl)
  · rcases hc with rfl | rfl | rfl | rfl | rfl | rfl | rfl | rfl | rfl | rfl | rfl <;> exact bad_line (v := [115, 101, 97, 116, 32, 49, 32, 49, 32, 49, 32, 49]) (tk_b5 _) (by simp [Tok.endB]) rfl (by kernel_rfl)
  · rcases hc with rfl | rfl | rfl | rfl | rfl | rfl | rfl | rfl | rfl | rfl | rfl <;> exact bad_line (v := [115, 101, 97, 116, 32, 45, 49, 32, 48, 32, 48]) (tk_b6 _) (by simp [Tok.endB]) rfl (by kernel_rfl)
  · rcases hc with rfl | rfl | rfl | rfl | rfl | rfl | rfl | rfl | rfl | rfl | rfl <;> exact bad_line (v := [114, 97, 100, 105, 117, 115, 32, 48, 32, 48]) (tk_b7 _) (by simp [Tok.endB]) rfl (by kernel_rfl)
  · rcases hc with rfl | rfl | rfl | rfl | rfl | rfl | rfl | rfl | rfl | rfl | rfl <;> exact bad_line (v := [112, 111, 108, 101, 32, 49, 32, 49, 32, 48]) (tk_b8 _) (by simp [Tok.endB]) rfl (by kernel_rfl)
  · rcases hc with rfl | rfl | rfl | rfl | rfl | rfl | rfl | rfl | rfl | rfl | rfl <;> exact bad_line (v := [53]) (tk_b9 _) (by simp [Tok.endB]) rfl (by kernel_rfl)
theorem first_read (k m w : Nat) (hk : k < 11) (hm : m < 6) (hw : w < 10) : codeOf (readL (firstT k m w)) = (2, (k : Int) + 3, firstC w) := by
  have e : firstT k m w = firstB ++ (aheadB k ++ (firstP w ++ 10 :: behindB m)) := by unfold firstT; simp
  have hs : scan (firstT k m w) 1 St.zero = ((Tok.allP (behindB m) ((k : Int) + 3 + 1) 1).2, .error ((k : Int) + 3, firstC w)) := by
    rw [e, first_ahead k (by omega), first_bad k w hk hw]
  have hcode : (Tok.allP (behindB m) ((k : Int) + 3 + 1) 1).2.2.2 = 0 := by
    have hc : m = 0 ∨ m = 1 ∨ m = 2 ∨ m = 3 ∨ m = 4 ∨ m = 5 := by omega
    rcases hc with rfl | rfl | rfl | rfl | rfl | rfl
    · exact tk_m0 _
    · exact tk_m1 _
    · exact tk_m2 _
    · exact tk_m3 _
    · exact tk_m4 _
    · exact tk_m5 _
  have hl : (firstT k m w).length ≤ 1048576 := by
    have ha : ∀ n, (aheadB n).length = n * 11 := fun n => by
      induction n with
      | zero => rfl
      | succ n ih => unfold aheadB; simp [ih, digB]; omega
    have hb : ∀ n, (behindB n).length = n * 13 := fun n => by
      induction n with
      | zero => rfl
      | succ n ih => unfold behindB; simp [ih, digB]; omega
    have hp : (firstP w).length ≤ 12 := by
      have hv : w = 0 ∨ w = 1 ∨ w = 2 ∨ w = 3 ∨ w = 4 ∨ w = 5 ∨ w = 6 ∨ w = 7 ∨ w = 8 ∨ w = 9 := by omega
      rcases hv with rfl | rfl | rfl | rfl | rfl | rfl | rfl | rfl | rfl | rfl <;> decide
    unfold firstT
    simp only [List.length_append, ha, hb]
    have : firstB.length = 18 := rfl
    simp; omega
  rw [readL_scan (by omega), hs]
  simp only []
  rw [if_pos hcode]
  rfl
end Go.Proofs.YtpkjhlcolgoknaaGreatDoor.Par

namespace Go.Proofs.YtpkjhlcolgoknaaGreatDoor.Par
set_option linter.unusedVariables false
set_option maxRecDepth 100000
open Go.RowKit Go.Shelf
open Go.Proofs.YtpkjhlcolgoknaaGreatDoor.Ven (Seat Pole Ven Box RowF info_of)

def largeH : List UInt8 := [103, 97, 112, 32, 49, 10, 115, 101, 97, 116, 32, 48, 32, 48, 32, 48, 10]
def largeT (m : Nat) : List UInt8 := largeH ++ List.replicate m 32
theorem tk_gap1 (li : Int) : Tok.allP ([103, 97, 112, 32, 49] ++ [10]) li 1 = ([(1, 0, li, 1, [103, 97, 112]), (2, 1, li, 5, [49])] ++ [(3, 0, li, 6, [])], li + 1, 1, 0) := by kernel_rfl
theorem span_blanks : ∀ m, Tok.spanL Tok.blankB (List.replicate m 32) = m
  | 0 => rfl
  | m + 1 => by rw [List.replicate_succ, Tok.spanL_cons, span_blanks m]; rfl
theorem scan_blanks (m : Nat) (li : Int) (s : St) : scan (List.replicate m 32) li s = ((li, 1 + (m : Int), 0), .ok s) := by
  have hu : Tok.unsaidL (List.replicate m 32) = (List.replicate m (32 : UInt8)).length := by
    unfold Tok.unsaidL
    rw [span_blanks, List.drop_of_length_le (by simp)]
    simp
  unfold scan
  rw [Tok.allP_none _ li 1 hu]
  simp [linesE_nil]
theorem large_scan (m : Nat) : scan (largeT m) 1 St.zero = ((3, 1 + (m : Int), 0), .ok ⟨[⟨0, 0, 0, 0⟩], 1, 0, false, [], []⟩) := by
  have e : largeT m = [103, 97, 112, 32, 49] ++ 10 :: ([115, 101, 97, 116, 32, 48, 32, 48, 32, 48] ++ 10 :: List.replicate m 32) := rfl
  rw [e, step_line (s' := ⟨[], 1, 0, false, [], []⟩) (tk_gap1 1) (by simp [Tok.endB]) rfl (by kernel_rfl), step_line (s' := ⟨[⟨0, 0, 0, 0⟩], 1, 0, false, [], []⟩) (tk_seat (1 + 1)) (by simp [Tok.endB]) rfl (by kernel_rfl), scan_blanks]
  rfl
theorem large_len (m : Nat) : (largeT m).length = 17 + m := by unfold largeT; simp [largeH]; omega
theorem large_ok (m : Nat) (h : 17 + m ≤ 1048576) : codeOf (readL (largeT m)) = (0, 0, 0) := by
  rw [readL_scan (by rw [large_len]; omega), large_scan]
  rfl
theorem large_no (m : Nat) (h : 1048576 < 17 + m) : codeOf (readL (largeT m)) = (3, 0, 0) := by
  rw [readL_large (by rw [large_len]; omega)]
  rfl
theorem make_bytes (J : Nat) (hJ : J < 5) (w : World) : (Instr.makeSlice 51 (.int .i64 (1048574 + (J : Int))) (.int .i64 (1048574 + (J : Int)))).run Tryz.prog w = .ok (.slice (some ⟨w.heap.size, 0, none⟩) (1048574 + J) (1048574 + J)) (w.alloc (.cells (madeCells #[.int .u8 0] (1048574 + J)) 5)) := by
  have h : (Tryz.prog.info? 5).map (fun i => (i.zero, i.size, i.bytes)) = some (some (.int .u8 0), 1, 1) := by kernel_rfl
  cases hi : Tryz.prog.info? 5 with
  | none => rw [hi] at h; cases h
  | some i =>
    rw [hi] at h
    have h' := Option.some.inj h
    have hz := congrArg (·.1) h'
    have hs := congrArg (·.2.1) h'
    have hb := congrArg (·.2.2) h'
    simp only at hz hs hb
    have := run_make (P := Tryz.prog) w 51 5 i (.int .u8 0) Tryz.underlying51 hi hz .i64 .i64 (1048574 + (J : Int)) (1048574 + (J : Int)) (by omega) (by omega) (by rw [hb]; omega) (by omega)
    rw [this, hs]
    have e : (1048574 + (J : Int)).toNat = 1048574 + J := by omega
    simp [e]
    rfl
theorem RowF.setCells {g n : Nat} : ∀ (vs : List Value) (o : Nat) (f : Nat → Value) (w : World), o + vs.length ≤ n → RowF w g n f → RowF (w.setCells g o vs) g n (fun j => if o ≤ j ∧ j < o + vs.length then vs[j - o]! else f j)
  | [], o, f, w, _, h => ⟨h.1, fun j hj => by
      have := h.2 j hj
      have e : ¬ (o ≤ j ∧ j < o + ([] : List Value).length) := fun hc => by simp at hc; omega
      refine ⟨this.1.trans ?_, this.2⟩
      show some (f j) = some (if o ≤ j ∧ j < o + ([] : List Value).length then ([] : List Value)[j - o]! else f j)
      rw [if_neg e]⟩
  | v :: r, o, f, w, hl, h => by
    simp only [List.length_cons] at hl
    have h1 := h.put o v (by omega) (f' := fun j => if j = o then v else f j) (fun j _ => rfl)
    have h2 := RowF.setCells r (o + 1) _ _ (by omega) h1
    refine ⟨h2.1, fun j hj => ?_⟩
    have h3 := h2.2 j hj
    refine ⟨h3.1.trans ?_, h3.2⟩
    show some (if o + 1 ≤ j ∧ j < o + 1 + r.length then r[j - (o + 1)]! else if j = o then v else f j) = some (if o ≤ j ∧ j < o + (v :: r).length then (v :: r)[j - o]! else f j)
    congr 1
    by_cases e1 : j = o
    · subst e1
      rw [if_neg (by omega), if_pos rfl, if_pos ⟨Nat.le_refl _, by simp⟩]; simp
    · by_cases e2 : o ≤ j ∧ j < o + (v :: r).length
      · simp only [List.length_cons] at e2
        rw [if_pos ⟨by omega, by omega⟩, if_pos ⟨e2.1, by simp; omega⟩]
        have : j - o = (j - (o + 1)) + 1 := by omega
        rw [this]; simp
      · have e3 : ¬ (o + 1 ≤ j ∧ j < o + 1 + r.length) := fun hc => e2 ⟨by omega, by simp; omega⟩
        rw [if_neg e2, if_neg e3, if_neg e1]
theorem wpList_copy_text {P : Program} (w : World) {ops : Array Oper} {rest : List Oper} {o : Oper} {a : Act} {Q : Exit → Act → World → Prop}
    (hg : o.guard = none) (d x : Operand) (dT sT : TypeId) (hop : o.op = Op.call { callee := Callee.builtin Builtin.copy, args := #[d, x], argTypes := #[dT, sT] })
    (elem : TypeId) (hu : P.underlying dT = some (.slice elem)) (hz : ∀ w, (Go.sizeOf elem).run P w = .ok 1 w)
    (b off dLen dCap : Nat) (hd : a.eval d = .slice (some ⟨b, off, none⟩) dLen dCap) (t : ByteArray) (hx : a.eval x = .string t) (hle : t.size ≤ dLen)
    (hc : ∀ j, j < t.size → (w.cell? ⟨b, off + j, none⟩).isSome = true) (hf : ∀ j, j < t.size → w.frozen? ⟨b, off + j, none⟩ = false)
    (hK : ∀ w', Hid (w' = w.setCells b off (t.data.toList.map fun x => Value.int .u8 (x.toNat : Int))) → wpList P ops Q rest (a.put o.dst (goInt t.size)) w') :
    wpList P ops Q (o :: rest) a w := by
  refine wpList_plain hg fun K hK' => ?_
  have hrun := Go.run_copy_string (P := P) w dT sT o.type elem b off dLen dCap t hu hz hle hc hf
  unfold Oper.wp
  simp [execOp, hop, resolve, invoke, builtin, hd, hx, hrun, Result.andThen]
  exact hK' _ _ (hK _ (by show _ = _; rfl))
def largeF (j : Nat) : Value := if j < 17 then .int .u8 ((largeH[j]!).toNat : Int) else .int .u8 32
theorem large_at (m i : Nat) (h : i < 17 + m) : (largeT m)[i]? = some (if i < 17 then largeH[i]! else 32) := by
  unfold largeT
  by_cases h1 : i < 17
  · rw [List.getElem?_append_left (show i < largeH.length from h1), if_pos h1, getElem!_pos largeH i h1, List.getElem?_eq_getElem h1]
  · rw [List.getElem?_append_right (show largeH.length ≤ i by show 17 ≤ i; omega), if_neg h1, List.getElem?_replicate, if_pos (show i - largeH.length < m by show i - 17 < m; omega)]
theorem large_bytes {W : World} {g J : Nat} (h : RowF W g (1048574 + J) largeF) : Lib.Bytes W g 0 ⟨(largeT (1048557 + J)).toArray⟩ := by
  intro i hi
  have hl : i < (largeT (1048557 + J)).length := hi
  have hi' := hl
  rw [large_len] at hi'
  obtain ⟨_, hk⟩ := List.getElem?_eq_some_iff.1 (large_at (1048557 + J) i hi')
  have e : (⟨(largeT (1048557 + J)).toArray⟩ : ByteArray)[i]'hi = (largeT (1048557 + J))[i]'hl := rfl
  rw [Nat.zero_add, (h.2 i (by omega)).1, e, hk]
  unfold largeF
  by_cases h1 : i < 17
  · rw [if_pos h1, if_pos h1]
  · rw [if_neg h1, if_neg h1]; rfl
set_option maxHeartbeats 4000000 in
theorem large_law (n : Int) (w : World) (hL : Has0 w) :
    Calls Tryz.prog 6 #[.int .i64 n] w fun e w' => e = .returned (.bool true) ∧ Below w.heap.size w w' := by
  obtain ⟨J, hJ, eJ⟩ := Tok.mod_u64 n 5 (by omega)
  have HL : Hid (Has0 w) := hL
  have hmk := make_bytes J (by omega)
  clear hL
  go_enter Tryz.func6, Tryz.ntmps6
  go_wp2
  clear hmk
  go_loopw [5] (fun i wr => ∃ k : Nat, k ≤ 1048574 + J ∧ i = .int .i64 k ∧ Hid (Below w.heap.size w wr) ∧ Hid (RowF wr w.heap.size (1048574 + J) (fun j => if j < k then .int .u8 32 else .int .u8 0))) (fun i _ => 1048574 + J - (intOf i).toNat)
  case atStart => exact ⟨0, Nat.zero_le _, rfl, (Below.refl _ w).alloc (Nat.le_refl _) _, RowF.made w (.int .u8 0) (1048574 + J) 5⟩
  case round =>
    obtain ⟨k, hk, rfl, HB, HR⟩ := hrel
    by_cases hlt : k < 1048574 + J
    · have hltz : (k : Int) < 1048574 + (J : Int) := by omega
      have r0 := (HR.out.2 k hlt).1
      have r1 := (HR.out.2 k hlt).2
      have rl := HR.out.1
      go_wp2
      go_roundw
      case rel =>
        refine ⟨k + 1, by omega, by go_num, Below.setCell HB.out (Nat.le_refl _) _, HR.out.put k _ hlt fun j hj => ?_⟩
        by_cases e : j = k
        · subst e; simp
        · rw [if_neg e]
          by_cases e2 : j < k
          · rw [if_pos e2, if_pos (by omega)]
          · rw [if_neg e2, if_neg (by omega)]
      case measure => simp [intOf]; omega
    · have hltz : ¬ (k : Int) < 1048574 + (J : Int) := by omega
      have hR1 : RowF wr w.heap.size (1048574 + J) (fun _ => .int .u8 32) := ⟨HR.out.1, fun j hj => by
        have h1 := HR.out.2 j hj
        have h2 : (if j < k then Value.int .u8 32 else Value.int .u8 0) = Value.int .u8 32 := if_pos (by omega)
        exact ⟨h1.1.trans (congrArg some h2), h1.2⟩⟩
      have HR1 : Hid (RowF wr w.heap.size (1048574 + J) (fun _ => .int .u8 32)) := hR1
      clear hR1
      have hz5 : ∀ w, (Go.sizeOf 5).run Tryz.prog w = .ok 1 w := fun w => by kernel_rfl
      go_wp2_with (refine wpList_copy_text _ rfl _ _ 51 9 rfl 5 Tryz.underlying51 hz5 w.heap.size 0 (1048574 + J) (1048574 + J) rfl ⟨largeH.toArray⟩ rfl ?c1 ?c2 ?c3 ?_)
      case c1 => show 17 ≤ 1048574 + J; omega
      case c2 =>
        intro j hj
        have hj' : j < 17 := hj
        first | (rw [Nat.zero_add, (HR1.out.2 j (by omega)).1]; rfl) | (rw [(HR1.out.2 j (by omega)).1]; rfl)
      case c3 =>
        intro j hj
        have hj' : j < 17 := hj
        first | (rw [Nat.zero_add]; exact (HR1.out.2 j (by omega)).2) | exact (HR1.out.2 j (by omega)).2
      intro w2 HW2
      have hw2 : w2 = wr.setCells w.heap.size 0 (largeH.map fun x => Value.int .u8 (x.toNat : Int)) := HW2.out
      have hR2 : RowF w2 w.heap.size (1048574 + J) largeF := by
        have h := RowF.setCells (largeH.map fun x => Value.int .u8 (x.toNat : Int)) 0 _ wr (by show 0 + 17 ≤ 1048574 + J; omega) HR1.out
        rw [show wr.setCells w.heap.size 0 (largeH.map fun x => Value.int .u8 (x.toNat : Int)) = w2 from hw2.symm] at h
        refine ⟨h.1, fun j hj => ?_⟩
        have h1 := h.2 j hj
        refine ⟨h1.1.trans (congrArg some ?_), h1.2⟩
        show (if 0 ≤ j ∧ j < 0 + 17 then (largeH.map fun x => Value.int .u8 (x.toNat : Int))[j - 0]! else Value.int .u8 32) = largeF j
        unfold largeF
        by_cases h17 : j < 17
        · rw [if_pos ⟨Nat.zero_le _, by omega⟩, if_pos h17, Nat.sub_zero, getElem!_pos _ j (by simp [largeH]; omega), getElem!_pos largeH j h17, List.getElem_map]; try rfl
        · rw [if_neg (fun hc => h17 (by omega)), if_neg h17]
      have HB2 : Hid (Below w.heap.size w w2) := by
        show Below _ _ _
        rw [hw2]
        exact below_setCells (Nat.le_refl _) _ 0 wr HB.out
      have hcv := Lib.run_convert_whole (P := Tryz.prog) w2 51 5 9 Tryz.underlying51 Tryz.underlying5 Tryz.underlying9 w.heap.size 0 ⟨(largeT (1048557 + J)).toArray⟩ (large_bytes hR2) (1048574 + J)
      have hsz : (⟨(largeT (1048557 + J)).toArray⟩ : ByteArray).size = 1048574 + J := (large_len (1048557 + J)).trans (by omega)
      rw [hsz] at hcv
      have hck := check_any (largeT (1048557 + J)) w2 (HL.out.next HB2.out).rng (HL.out.next HB2.out).et
      have HCK : Hid (∀ (c l o : Int), codeOf (readL (largeT (1048557 + J))) = (c, l, o) → Calls Tryz.prog 13 #[.string ⟨(largeT (1048557 + J)).toArray⟩] w2 fun e w' => e = .returned (.tuple #[.int .i64 c, .agg #[.int .i64 l, .int .i64 o]]) ∧ Below w2.heap.size w2 w') := fun c l o he => by
        rw [he] at hck; exact hck
      have HOK : Hid (17 + (1048557 + J) ≤ 1048576 → codeOf (readL (largeT (1048557 + J))) = (0, 0, 0)) := fun h => large_ok _ h
      have HNO : Hid (1048576 < 17 + (1048557 + J) → codeOf (readL (largeT (1048557 + J))) = (3, 0, 0)) := fun h => large_no _ h
      clear hck hsz hR2 hw2 HW2 HR HR1
      generalize largeT (1048557 + J) = TT at hcv HCK HOK HNO
      go_wp2_with fail
      by_cases hJ2 : J ≤ 2
      · have hJz : ¬ (1048576 < 1048574 + (J : Int)) := by omega
        refine (HCK.out 0 0 0 (HOK.out (by omega))).mono ?_
        rintro e w3 ⟨rfl, hb3⟩
        have al := Ven.below_alloc w3 (.cells #[.int .i64 0, .int .i64 0] 27)
        have p3 := HB2.out.trans (hb3.mono HB2.out.size)
        have p4 := p3.trans (al.mono p3.size)
        have bx := Box.fresh w3 27 #[.int .i64 0, .int .i64 0]
        have htd := told_any _ (HL.out.next p4)
        have HP4 : Hid (Below w.heap.size w (w3.alloc (.cells #[.int .i64 0, .int .i64 0] 27))) := p4
        have HBX : Hid (Box (w3.alloc (.cells #[.int .i64 0, .int .i64 0] 27)) w3.heap.size 27 #[.int .i64 0, .int .i64 0]) := bx
        clear hb3 al p3 p4 bx
        go_wp2_with fail
        refine htd.mono ?_
        rintro e w4 ⟨rfl, hb4⟩
        have b4 := HBX.out.next hb4
        have q0 := b4.cell 0 _ rfl
        have q1 := b4.cell 1 _ rfl
        have ql := b4.lt
        have p5 := HP4.out.trans (hb4.mono HP4.out.size)
        clear htd b4 hb4
        go_wp2
        go_ret
        exact ⟨rfl, p5⟩
      · have hJz : (1048576 : Int) < 1048574 + (J : Int) := by omega
        refine (HCK.out 3 0 0 (HNO.out (by omega))).mono ?_
        rintro e w3 ⟨rfl, hb3⟩
        have al := Ven.below_alloc w3 (.cells #[.int .i64 0, .int .i64 0] 27)
        have p3 := HB2.out.trans (hb3.mono HB2.out.size)
        have p4 := p3.trans (al.mono p3.size)
        have bx := Box.fresh w3 27 #[.int .i64 0, .int .i64 0]
        have htd := told_any _ (HL.out.next p4)
        have HP4 : Hid (Below w.heap.size w (w3.alloc (.cells #[.int .i64 0, .int .i64 0] 27))) := p4
        have HBX : Hid (Box (w3.alloc (.cells #[.int .i64 0, .int .i64 0] 27)) w3.heap.size 27 #[.int .i64 0, .int .i64 0]) := bx
        clear hb3 al p3 p4 bx
        go_wp2_with fail
        refine htd.mono ?_
        rintro e w4 ⟨rfl, hb4⟩
        have b4 := HBX.out.next hb4
        have q0 := b4.cell 0 _ rfl
        have q1 := b4.cell 1 _ rfl
        have ql := b4.lt
        have p5 := HP4.out.trans (hb4.mono HP4.out.size)
        clear htd b4 hb4
        go_wp2
        go_ret
        exact ⟨rfl, p5⟩
end Go.Proofs.YtpkjhlcolgoknaaGreatDoor.Par
