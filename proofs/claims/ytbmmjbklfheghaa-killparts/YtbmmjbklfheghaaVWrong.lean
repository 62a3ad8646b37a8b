/- venue.Wrong, venue.May by contracts. -/
import Derived.Test.YtbmmjbklfheghaaVKills
namespace Go.Proofs.Ytbmmjbklfheghaa.Ven
set_option linter.unusedVariables false
set_option maxRecDepth 100000
open Go.RowKit Go.Shelf

abbrev venV (a1 : Option Addr) (n1 c1 : Nat) (gap radius : Int) (a2 : Option Addr) (n2 c2 : Nat) (a3 : Option Addr) (n3 c3 : Nat) : Value :=
  .agg #[.slice a1 n1 c1, .int .i64 gap, .int .i64 radius, .slice a2 n2 c2, .slice a3 n3 c3]
/-- The three slices of a venue. -/
structure VenAt (w : World) (a1 : Option Addr) (n1 c1 : Nat) (a2 : Option Addr) (n2 c2 : Nat) (a3 : Option Addr) (n3 c3 : Nat) (V : Ven) : Prop where
  s : Sl 4 seatC w (.slice a1 n1 c1) V.seats
  k : Sl 1 intC w (.slice a2 n2 c2) V.kills
  p : Sl 3 poleC w (.slice a3 n3 c3) V.poles
theorem VenAt.next {w w' : World} {a1 : Option Addr} {n1 c1 : Nat} {a2 : Option Addr} {n2 c2 : Nat} {a3 : Option Addr} {n3 c3 : Nat} {V : Ven} (h : VenAt w a1 n1 c1 a2 n2 c2 a3 n3 c3 V) (hb : Below w.heap.size w w') : VenAt w' a1 n1 c1 a2 n2 c2 a3 n3 c3 V :=
  ⟨h.s.next hb, h.k.next hb, h.p.next hb⟩
theorem Sl.len {α : Type} {k : Nat} {enc : α → List Value} {w : World} {a : Option Addr} {n c : Nat} {l : List α} (h : Sl k enc w (.slice a n c) l) : n = l.length := by
  rcases h with ⟨⟨a', c', h⟩, rfl⟩ | ⟨b, off, cap, h, _⟩
  · cases h; rfl
  · cases h; rfl
set_option maxHeartbeats 1000000 in
theorem wrong_0 (a1 a2 a3 : Option Addr) (n1 c1 n2 c2 n3 c3 : Nat) (gap radius : Int) (x1 x2 x3 x4 : Bool) (w : World)
    (hs : ∀ w', Below w.heap.size w w' → Calls Try.prog 42 #[.slice a1 n1 c1] w' fun e w'' => e = .returned (.bool false) ∧ Below w'.heap.size w' w'')
    (hg : ∀ w', Calls Try.prog 43 #[.int .i64 gap, .int .i64 0] w' fun e w'' => e = .returned (.bool x1) ∧ w'' = w')
    (hd : ∀ w', Calls Try.prog 43 #[.int .i64 radius, .int .i64 1] w' fun e w'' => e = .returned (.bool x2) ∧ w'' = w')
    (hk : ∀ w', Below w.heap.size w w' → Calls Try.prog 44 #[.slice a2 n2 c2, .int .i64 n1] w' fun e w'' => e = .returned (.bool x3) ∧ w'' = w')
    (hp : ∀ w', Below w.heap.size w w' → Calls Try.prog 45 #[.slice a3 n3 c3] w' fun e w'' => e = .returned (.bool x4) ∧ Below w'.heap.size w' w'') :
    Calls Try.prog 33 #[venV a1 n1 c1 gap radius a2 n2 c2 a3 n3 c3] w fun e w' => e = .returned (.string ⟨tSeats.toArray⟩) ∧ Below w.heap.size w w' := by
  go_enter Try.func33, Try.ntmps33
  go_wp2_with fail
  refine (hs _ ((Below.refl _ w).alloc (Nat.le_refl _) _)).mono ?_
  rintro e w1 ⟨rfl, hb⟩
  have B1 : Below w.heap.size w w1 := ((Below.refl _ w).alloc (Nat.le_refl _) _).trans (hb.mono (by simp))
  have hlt : w.heap.size < w1.heap.size := by have := hb.size; simp at this; omega
  have v0 : w1.cell? ⟨w.heap.size, 0, none⟩ = some (.slice a1 n1 c1) := by rw [hb.cell (by simp)]; simp
  have v1 : w1.cell? ⟨w.heap.size, 1, none⟩ = some (.int .i64 gap) := by rw [hb.cell (by simp)]; simp
  have v2 : w1.cell? ⟨w.heap.size, 2, none⟩ = some (.int .i64 radius) := by rw [hb.cell (by simp)]; simp
  have v3 : w1.cell? ⟨w.heap.size, 3, none⟩ = some (.slice a2 n2 c2) := by rw [hb.cell (by simp)]; simp
  have v4 : w1.cell? ⟨w.heap.size, 4, none⟩ = some (.slice a3 n3 c3) := by rw [hb.cell (by simp)]; simp
  clear hb
  go_wp2
  go_ret
  exact ⟨rfl, B1⟩
set_option maxHeartbeats 1000000 in
theorem wrong_1 (a1 a2 a3 : Option Addr) (n1 c1 n2 c2 n3 c3 : Nat) (gap radius : Int) (x2 x3 x4 : Bool) (w : World)
    (hs : ∀ w', Below w.heap.size w w' → Calls Try.prog 42 #[.slice a1 n1 c1] w' fun e w'' => e = .returned (.bool true) ∧ Below w'.heap.size w' w'')
    (hg : ∀ w', Calls Try.prog 43 #[.int .i64 gap, .int .i64 0] w' fun e w'' => e = .returned (.bool false) ∧ w'' = w')
    (hd : ∀ w', Calls Try.prog 43 #[.int .i64 radius, .int .i64 1] w' fun e w'' => e = .returned (.bool x2) ∧ w'' = w')
    (hk : ∀ w', Below w.heap.size w w' → Calls Try.prog 44 #[.slice a2 n2 c2, .int .i64 n1] w' fun e w'' => e = .returned (.bool x3) ∧ w'' = w')
    (hp : ∀ w', Below w.heap.size w w' → Calls Try.prog 45 #[.slice a3 n3 c3] w' fun e w'' => e = .returned (.bool x4) ∧ Below w'.heap.size w' w'') :
    Calls Try.prog 33 #[venV a1 n1 c1 gap radius a2 n2 c2 a3 n3 c3] w fun e w' => e = .returned (.string ⟨tGap.toArray⟩) ∧ Below w.heap.size w w' := by
  go_enter Try.func33, Try.ntmps33
  go_wp2_with fail
  refine (hs _ ((Below.refl _ w).alloc (Nat.le_refl _) _)).mono ?_
  rintro e w1 ⟨rfl, hb⟩
  have B1 : Below w.heap.size w w1 := ((Below.refl _ w).alloc (Nat.le_refl _) _).trans (hb.mono (by simp))
  have hlt : w.heap.size < w1.heap.size := by have := hb.size; simp at this; omega
  have v0 : w1.cell? ⟨w.heap.size, 0, none⟩ = some (.slice a1 n1 c1) := by rw [hb.cell (by simp)]; simp
  have v1 : w1.cell? ⟨w.heap.size, 1, none⟩ = some (.int .i64 gap) := by rw [hb.cell (by simp)]; simp
  have v2 : w1.cell? ⟨w.heap.size, 2, none⟩ = some (.int .i64 radius) := by rw [hb.cell (by simp)]; simp
  have v3 : w1.cell? ⟨w.heap.size, 3, none⟩ = some (.slice a2 n2 c2) := by rw [hb.cell (by simp)]; simp
  have v4 : w1.cell? ⟨w.heap.size, 4, none⟩ = some (.slice a3 n3 c3) := by rw [hb.cell (by simp)]; simp
  clear hb
  go_wp2_with fail
  refine (hg _).mono ?_
  rintro e w' ⟨rfl, rfl⟩
  go_wp2
  go_ret
  exact ⟨rfl, B1⟩
set_option maxHeartbeats 1000000 in
theorem wrong_2 (a1 a2 a3 : Option Addr) (n1 c1 n2 c2 n3 c3 : Nat) (gap radius : Int) (x3 x4 : Bool) (w : World)
    (hs : ∀ w', Below w.heap.size w w' → Calls Try.prog 42 #[.slice a1 n1 c1] w' fun e w'' => e = .returned (.bool true) ∧ Below w'.heap.size w' w'')
    (hg : ∀ w', Calls Try.prog 43 #[.int .i64 gap, .int .i64 0] w' fun e w'' => e = .returned (.bool true) ∧ w'' = w')
    (hd : ∀ w', Calls Try.prog 43 #[.int .i64 radius, .int .i64 1] w' fun e w'' => e = .returned (.bool false) ∧ w'' = w')
    (hk : ∀ w', Below w.heap.size w w' → Calls Try.prog 44 #[.slice a2 n2 c2, .int .i64 n1] w' fun e w'' => e = .returned (.bool x3) ∧ w'' = w')
    (hp : ∀ w', Below w.heap.size w w' → Calls Try.prog 45 #[.slice a3 n3 c3] w' fun e w'' => e = .returned (.bool x4) ∧ Below w'.heap.size w' w'') :
    Calls Try.prog 33 #[venV a1 n1 c1 gap radius a2 n2 c2 a3 n3 c3] w fun e w' => e = .returned (.string ⟨tRadius.toArray⟩) ∧ Below w.heap.size w w' := by
  go_enter Try.func33, Try.ntmps33
  go_wp2_with fail
  refine (hs _ ((Below.refl _ w).alloc (Nat.le_refl _) _)).mono ?_
  rintro e w1 ⟨rfl, hb⟩
  have B1 : Below w.heap.size w w1 := ((Below.refl _ w).alloc (Nat.le_refl _) _).trans (hb.mono (by simp))
  have hlt : w.heap.size < w1.heap.size := by have := hb.size; simp at this; omega
  have v0 : w1.cell? ⟨w.heap.size, 0, none⟩ = some (.slice a1 n1 c1) := by rw [hb.cell (by simp)]; simp
  have v1 : w1.cell? ⟨w.heap.size, 1, none⟩ = some (.int .i64 gap) := by rw [hb.cell (by simp)]; simp
  have v2 : w1.cell? ⟨w.heap.size, 2, none⟩ = some (.int .i64 radius) := by rw [hb.cell (by simp)]; simp
  have v3 : w1.cell? ⟨w.heap.size, 3, none⟩ = some (.slice a2 n2 c2) := by rw [hb.cell (by simp)]; simp
  have v4 : w1.cell? ⟨w.heap.size, 4, none⟩ = some (.slice a3 n3 c3) := by rw [hb.cell (by simp)]; simp
  clear hb
  go_wp2_with fail
  refine (hg _).mono ?_
  rintro e w' ⟨rfl, rfl⟩
  go_wp2_with fail
  refine (hd _).mono ?_
  rintro e w' ⟨rfl, rfl⟩
  go_wp2
  go_ret
  exact ⟨rfl, B1⟩
set_option maxHeartbeats 1000000 in
theorem wrong_3 (a1 a2 a3 : Option Addr) (n1 c1 n2 c2 n3 c3 : Nat) (gap radius : Int) (x4 : Bool) (w : World)
    (hs : ∀ w', Below w.heap.size w w' → Calls Try.prog 42 #[.slice a1 n1 c1] w' fun e w'' => e = .returned (.bool true) ∧ Below w'.heap.size w' w'')
    (hg : ∀ w', Calls Try.prog 43 #[.int .i64 gap, .int .i64 0] w' fun e w'' => e = .returned (.bool true) ∧ w'' = w')
    (hd : ∀ w', Calls Try.prog 43 #[.int .i64 radius, .int .i64 1] w' fun e w'' => e = .returned (.bool true) ∧ w'' = w')
    (hk : ∀ w', Below w.heap.size w w' → Calls Try.prog 44 #[.slice a2 n2 c2, .int .i64 n1] w' fun e w'' => e = .returned (.bool false) ∧ w'' = w')
    (hp : ∀ w', Below w.heap.size w w' → Calls Try.prog 45 #[.slice a3 n3 c3] w' fun e w'' => e = .returned (.bool x4) ∧ Below w'.heap.size w' w'') :
    Calls Try.prog 33 #[venV a1 n1 c1 gap radius a2 n2 c2 a3 n3 c3] w fun e w' => e = .returned (.string ⟨tKills.toArray⟩) ∧ Below w.heap.size w w' := by
  go_enter Try.func33, Try.ntmps33
  go_wp2_with fail
  refine (hs _ ((Below.refl _ w).alloc (Nat.le_refl _) _)).mono ?_
  rintro e w1 ⟨rfl, hb⟩
  have B1 : Below w.heap.size w w1 := ((Below.refl _ w).alloc (Nat.le_refl _) _).trans (hb.mono (by simp))
  have hlt : w.heap.size < w1.heap.size := by have := hb.size; simp at this; omega
  have v0 : w1.cell? ⟨w.heap.size, 0, none⟩ = some (.slice a1 n1 c1) := by rw [hb.cell (by simp)]; simp
  have v1 : w1.cell? ⟨w.heap.size, 1, none⟩ = some (.int .i64 gap) := by rw [hb.cell (by simp)]; simp
  have v2 : w1.cell? ⟨w.heap.size, 2, none⟩ = some (.int .i64 radius) := by rw [hb.cell (by simp)]; simp
  have v3 : w1.cell? ⟨w.heap.size, 3, none⟩ = some (.slice a2 n2 c2) := by rw [hb.cell (by simp)]; simp
  have v4 : w1.cell? ⟨w.heap.size, 4, none⟩ = some (.slice a3 n3 c3) := by rw [hb.cell (by simp)]; simp
  clear hb
  go_wp2_with fail
  refine (hg _).mono ?_
  rintro e w' ⟨rfl, rfl⟩
  go_wp2_with fail
  refine (hd _).mono ?_
  rintro e w' ⟨rfl, rfl⟩
  go_wp2_with fail
  refine (hk _ B1).mono ?_
  rintro e w' ⟨rfl, rfl⟩
  go_wp2
  go_ret
  exact ⟨rfl, B1⟩
set_option maxHeartbeats 1000000 in
theorem wrong_4 (a1 a2 a3 : Option Addr) (n1 c1 n2 c2 n3 c3 : Nat) (gap radius : Int) (w : World)
    (hs : ∀ w', Below w.heap.size w w' → Calls Try.prog 42 #[.slice a1 n1 c1] w' fun e w'' => e = .returned (.bool true) ∧ Below w'.heap.size w' w'')
    (hg : ∀ w', Calls Try.prog 43 #[.int .i64 gap, .int .i64 0] w' fun e w'' => e = .returned (.bool true) ∧ w'' = w')
    (hd : ∀ w', Calls Try.prog 43 #[.int .i64 radius, .int .i64 1] w' fun e w'' => e = .returned (.bool true) ∧ w'' = w')
    (hk : ∀ w', Below w.heap.size w w' → Calls Try.prog 44 #[.slice a2 n2 c2, .int .i64 n1] w' fun e w'' => e = .returned (.bool true) ∧ w'' = w')
    (hp : ∀ w', Below w.heap.size w w' → Calls Try.prog 45 #[.slice a3 n3 c3] w' fun e w'' => e = .returned (.bool false) ∧ Below w'.heap.size w' w'') :
    Calls Try.prog 33 #[venV a1 n1 c1 gap radius a2 n2 c2 a3 n3 c3] w fun e w' => e = .returned (.string ⟨tPoles.toArray⟩) ∧ Below w.heap.size w w' := by
  go_enter Try.func33, Try.ntmps33
  go_wp2_with fail
  refine (hs _ ((Below.refl _ w).alloc (Nat.le_refl _) _)).mono ?_
  rintro e w1 ⟨rfl, hb⟩
  have B1 : Below w.heap.size w w1 := ((Below.refl _ w).alloc (Nat.le_refl _) _).trans (hb.mono (by simp))
  have hlt : w.heap.size < w1.heap.size := by have := hb.size; simp at this; omega
  have v0 : w1.cell? ⟨w.heap.size, 0, none⟩ = some (.slice a1 n1 c1) := by rw [hb.cell (by simp)]; simp
  have v1 : w1.cell? ⟨w.heap.size, 1, none⟩ = some (.int .i64 gap) := by rw [hb.cell (by simp)]; simp
  have v2 : w1.cell? ⟨w.heap.size, 2, none⟩ = some (.int .i64 radius) := by rw [hb.cell (by simp)]; simp
  have v3 : w1.cell? ⟨w.heap.size, 3, none⟩ = some (.slice a2 n2 c2) := by rw [hb.cell (by simp)]; simp
  have v4 : w1.cell? ⟨w.heap.size, 4, none⟩ = some (.slice a3 n3 c3) := by rw [hb.cell (by simp)]; simp
  clear hb
  go_wp2_with fail
  refine (hg _).mono ?_
  rintro e w' ⟨rfl, rfl⟩
  go_wp2_with fail
  refine (hd _).mono ?_
  rintro e w' ⟨rfl, rfl⟩
  go_wp2_with fail
  refine (hk _ B1).mono ?_
  rintro e w' ⟨rfl, rfl⟩
  go_wp2_with fail
  refine (hp _ B1).mono ?_
  rintro e w2 ⟨rfl, hb⟩
  have B2 : Below w.heap.size w w2 := B1.trans (hb.mono B1.size)
  go_wp2
  go_ret
  exact ⟨rfl, B2⟩
set_option maxHeartbeats 1000000 in
theorem wrong_5 (a1 a2 a3 : Option Addr) (n1 c1 n2 c2 n3 c3 : Nat) (gap radius : Int) (w : World)
    (hs : ∀ w', Below w.heap.size w w' → Calls Try.prog 42 #[.slice a1 n1 c1] w' fun e w'' => e = .returned (.bool true) ∧ Below w'.heap.size w' w'')
    (hg : ∀ w', Calls Try.prog 43 #[.int .i64 gap, .int .i64 0] w' fun e w'' => e = .returned (.bool true) ∧ w'' = w')
    (hd : ∀ w', Calls Try.prog 43 #[.int .i64 radius, .int .i64 1] w' fun e w'' => e = .returned (.bool true) ∧ w'' = w')
    (hk : ∀ w', Below w.heap.size w w' → Calls Try.prog 44 #[.slice a2 n2 c2, .int .i64 n1] w' fun e w'' => e = .returned (.bool true) ∧ w'' = w')
    (hp : ∀ w', Below w.heap.size w w' → Calls Try.prog 45 #[.slice a3 n3 c3] w' fun e w'' => e = .returned (.bool true) ∧ Below w'.heap.size w' w'') :
    Calls Try.prog 33 #[venV a1 n1 c1 gap radius a2 n2 c2 a3 n3 c3] w fun e w' => e = .returned (.string ⟨#[]⟩) ∧ Below w.heap.size w w' := by
  go_enter Try.func33, Try.ntmps33
  go_wp2_with fail
  refine (hs _ ((Below.refl _ w).alloc (Nat.le_refl _) _)).mono ?_
  rintro e w1 ⟨rfl, hb⟩
  have B1 : Below w.heap.size w w1 := ((Below.refl _ w).alloc (Nat.le_refl _) _).trans (hb.mono (by simp))
  have hlt : w.heap.size < w1.heap.size := by have := hb.size; simp at this; omega
  have v0 : w1.cell? ⟨w.heap.size, 0, none⟩ = some (.slice a1 n1 c1) := by rw [hb.cell (by simp)]; simp
  have v1 : w1.cell? ⟨w.heap.size, 1, none⟩ = some (.int .i64 gap) := by rw [hb.cell (by simp)]; simp
  have v2 : w1.cell? ⟨w.heap.size, 2, none⟩ = some (.int .i64 radius) := by rw [hb.cell (by simp)]; simp
  have v3 : w1.cell? ⟨w.heap.size, 3, none⟩ = some (.slice a2 n2 c2) := by rw [hb.cell (by simp)]; simp
  have v4 : w1.cell? ⟨w.heap.size, 4, none⟩ = some (.slice a3 n3 c3) := by rw [hb.cell (by simp)]; simp
  clear hb
  go_wp2_with fail
  refine (hg _).mono ?_
  rintro e w' ⟨rfl, rfl⟩
  go_wp2_with fail
  refine (hd _).mono ?_
  rintro e w' ⟨rfl, rfl⟩
  go_wp2_with fail
  refine (hk _ B1).mono ?_
  rintro e w' ⟨rfl, rfl⟩
  go_wp2_with fail
  refine (hp _ B1).mono ?_
  rintro e w2 ⟨rfl, hb⟩
  have B2 : Below w.heap.size w w2 := B1.trans (hb.mono B1.size)
  go_wp2
  go_ret
  exact ⟨rfl, B2⟩
theorem wrong_any (a1 a2 a3 : Option Addr) (n1 c1 n2 c2 n3 c3 : Nat) (V : Ven) (w : World) (h : VenAt w a1 n1 c1 a2 n2 c2 a3 n3 c3 V) :
    Calls Try.prog 33 #[venV a1 n1 c1 V.gap V.radius a2 n2 c2 a3 n3 c3] w fun e w' => e = .returned (.string ⟨(wrongL V).toArray⟩) ∧ Below w.heap.size w w' := by
  have hs : ∀ w', Below w.heap.size w w' → _ := fun w' hb => seatsMay_any V.seats _ w' (h.next hb).s
  have hg := fits_length V.gap
  have hd := fits_dist V.radius
  have hk : ∀ w', Below w.heap.size w w' → _ := fun w' hb => killsMay_any V.kills _ n1 w' (h.next hb).k
  have hp : ∀ w', Below w.heap.size w w' → _ := fun w' hb => polesMay_any V.poles _ w' (h.next hb).p
  have hn := h.s.len
  unfold wrongL
  rw [← hn]
  generalize seatsB V.seats = x0 at hs ⊢
  generalize lengthB V.gap = x1 at hg ⊢
  generalize distB V.radius = x2 at hd ⊢
  generalize killsB V.kills n1 = x3 at hk ⊢
  generalize polesB V.poles = x4 at hp ⊢
  cases x0
  · exact wrong_0 a1 a2 a3 n1 c1 n2 c2 n3 c3 V.gap V.radius x1 x2 x3 x4 w hs hg hd hk hp
  cases x1
  · exact wrong_1 a1 a2 a3 n1 c1 n2 c2 n3 c3 V.gap V.radius x2 x3 x4 w hs hg hd hk hp
  cases x2
  · exact wrong_2 a1 a2 a3 n1 c1 n2 c2 n3 c3 V.gap V.radius x3 x4 w hs hg hd hk hp
  cases x3
  · exact wrong_3 a1 a2 a3 n1 c1 n2 c2 n3 c3 V.gap V.radius x4 w hs hg hd hk hp
  cases x4
  · exact wrong_4 a1 a2 a3 n1 c1 n2 c2 n3 c3 V.gap V.radius w hs hg hd hk hp
  · exact wrong_5 a1 a2 a3 n1 c1 n2 c2 n3 c3 V.gap V.radius w hs hg hd hk hp

theorem may_any (a1 a2 a3 : Option Addr) (n1 c1 n2 c2 n3 c3 : Nat) (V : Ven) (w : World) (h : VenAt w a1 n1 c1 a2 n2 c2 a3 n3 c3 V) :
    Calls Try.prog 20 #[venV a1 n1 c1 V.gap V.radius a2 n2 c2 a3 n3 c3] w fun e w' => e = .returned (.bool (mayB V)) ∧ Below w.heap.size w w' := by
  have hw := wrong_any a1 a2 a3 n1 c1 n2 c2 n3 c3 V _ (h.next ((Below.refl _ w).alloc (Nat.le_refl _) (.cells #[.slice a1 n1 c1, .int .i64 V.gap, .int .i64 V.radius, .slice a2 n2 c2, .slice a3 n3 c3] 26)))
  have he := mayB_wrong V
  generalize V.gap = gap at hw ⊢
  generalize V.radius = radius at hw ⊢
  generalize wrongL V = l at hw he
  go_enter Try.func20, Try.ntmps20
  go_wp2_with fail
  refine hw.mono ?_
  rintro e w1 ⟨rfl, hb⟩
  go_wp2
  go_ret
  refine ⟨ret_bool ?_, ((Below.refl _ w).alloc (Nat.le_refl _) _).trans (hb.mono (by simp))⟩
  cases l with
  | nil => rw [he.mp rfl]; rfl
  | cons c r =>
    cases hm : mayB V with
    | false => rfl
    | true => have := he.mpr hm; cases this
end Go.Proofs.Ytbmmjbklfheghaa.Ven
