/- venue.Same by its contract. -/
import Derived.Test.YtoaapngfbidllaaEqual
namespace Go.Proofs.Ytoaapngfbidllaa
set_option linter.unusedVariables false
open Go.RowKit Go.Shelf

def sameB (A B : Ven) : Bool := decide (A.seats = B.seats) && decide (A.gap = B.gap) && decide (A.radius = B.radius) && decide (A.kills = B.kills) && decide (A.poles = B.poles)
theorem below_drewN (w : World) (q : Nat) : Below w.heap.size w (w.drewN q) := ⟨rfl, rfl, rfl, Nat.le_refl _, fun _ _ => rfl⟩
theorem sameB_iff (A B : Ven) : sameB A B = true ↔ A = B := by
  obtain ⟨a1, a2, a3, a4, a5⟩ := A
  obtain ⟨b1, b2, b3, b4, b5⟩ := B
  unfold sameB; simp [and_assoc]
set_option maxHeartbeats 1000000 in
theorem same_0 (a1 a2 a3 b1 b2 b3 : Option Addr) (n1 c1 n2 c2 n3 c3 m1 d1 m2 d2 m3 d3 : Nat) (g1 r1 g2 r2 : Int) (x3 x4 : Bool) (w : World)
    (hs : ∀ w', Below w.heap.size w w' → Calls Try.prog 33 #[.slice a1 n1 c1, .slice b1 m1 d1] w' fun e w'' => e = .returned (.bool false) ∧ ∃ q, w'' = w'.drewN q)
    (hk : ∀ w', Below w.heap.size w w' → Calls Try.prog 34 #[.slice a2 n2 c2, .slice b2 m2 d2] w' fun e w'' => e = .returned (.bool x3) ∧ ∃ q, w'' = w'.drewN q)
    (hp : ∀ w', Below w.heap.size w w' → Calls Try.prog 35 #[.slice a3 n3 c3, .slice b3 m3 d3] w' fun e w'' => e = .returned (.bool x4) ∧ ∃ q, w'' = w'.drewN q) :
    Calls Try.prog 17 #[venV a1 n1 c1 g1 r1 a2 n2 c2 a3 n3 c3, venV b1 m1 d1 g2 r2 b2 m2 d2 b3 m3 d3] w fun e w' => e = .returned (.bool false) ∧ Below w.heap.size w w' := by
  have hb0 : Below w.heap.size w ((w.alloc (.cells #[.slice a1 n1 c1, .int .i64 g1, .int .i64 r1, .slice a2 n2 c2, .slice a3 n3 c3] 26)).alloc (.cells #[.slice b1 m1 d1, .int .i64 g2, .int .i64 r2, .slice b2 m2 d2, .slice b3 m3 d3] 26)) := ((Below.refl _ w).alloc (Nat.le_refl _) _).alloc (by simp) _
  go_enter Try.func17, Try.ntmps17
  go_wp2_with fail
  refine (hs _ hb0).mono ?_
  rintro e w' ⟨rfl, q, rfl⟩
  have hb1 := hb0.trans ((below_drewN _ q).mono hb0.size)
  go_wp2
  go_ret
  exact ⟨rfl, hb1⟩
set_option maxHeartbeats 1000000 in
theorem same_1 (a1 a2 a3 b1 b2 b3 : Option Addr) (n1 c1 n2 c2 n3 c3 m1 d1 m2 d2 m3 d3 : Nat) (g1 r1 g2 r2 : Int) (x3 x4 : Bool) (w : World)
    (hs : ∀ w', Below w.heap.size w w' → Calls Try.prog 33 #[.slice a1 n1 c1, .slice b1 m1 d1] w' fun e w'' => e = .returned (.bool true) ∧ ∃ q, w'' = w'.drewN q)
    (hk : ∀ w', Below w.heap.size w w' → Calls Try.prog 34 #[.slice a2 n2 c2, .slice b2 m2 d2] w' fun e w'' => e = .returned (.bool x3) ∧ ∃ q, w'' = w'.drewN q)
    (hp : ∀ w', Below w.heap.size w w' → Calls Try.prog 35 #[.slice a3 n3 c3, .slice b3 m3 d3] w' fun e w'' => e = .returned (.bool x4) ∧ ∃ q, w'' = w'.drewN q)
    (hg : (g1 == g2) = false) :
    Calls Try.prog 17 #[venV a1 n1 c1 g1 r1 a2 n2 c2 a3 n3 c3, venV b1 m1 d1 g2 r2 b2 m2 d2 b3 m3 d3] w fun e w' => e = .returned (.bool false) ∧ Below w.heap.size w w' := by
  have hb0 : Below w.heap.size w ((w.alloc (.cells #[.slice a1 n1 c1, .int .i64 g1, .int .i64 r1, .slice a2 n2 c2, .slice a3 n3 c3] 26)).alloc (.cells #[.slice b1 m1 d1, .int .i64 g2, .int .i64 r2, .slice b2 m2 d2, .slice b3 m3 d3] 26)) := ((Below.refl _ w).alloc (Nat.le_refl _) _).alloc (by simp) _
  go_enter Try.func17, Try.ntmps17
  go_wp2_with fail
  refine (hs _ hb0).mono ?_
  rintro e w' ⟨rfl, q, rfl⟩
  have hb1 := hb0.trans ((below_drewN _ q).mono hb0.size)
  go_wp2
  go_ret
  exact ⟨rfl, hb1⟩
set_option maxHeartbeats 1000000 in
theorem same_2 (a1 a2 a3 b1 b2 b3 : Option Addr) (n1 c1 n2 c2 n3 c3 m1 d1 m2 d2 m3 d3 : Nat) (g1 r1 g2 r2 : Int) (x3 x4 : Bool) (w : World)
    (hs : ∀ w', Below w.heap.size w w' → Calls Try.prog 33 #[.slice a1 n1 c1, .slice b1 m1 d1] w' fun e w'' => e = .returned (.bool true) ∧ ∃ q, w'' = w'.drewN q)
    (hk : ∀ w', Below w.heap.size w w' → Calls Try.prog 34 #[.slice a2 n2 c2, .slice b2 m2 d2] w' fun e w'' => e = .returned (.bool x3) ∧ ∃ q, w'' = w'.drewN q)
    (hp : ∀ w', Below w.heap.size w w' → Calls Try.prog 35 #[.slice a3 n3 c3, .slice b3 m3 d3] w' fun e w'' => e = .returned (.bool x4) ∧ ∃ q, w'' = w'.drewN q)
    (hg : (g1 == g2) = true) (hr : (r1 == r2) = false) :
    Calls Try.prog 17 #[venV a1 n1 c1 g1 r1 a2 n2 c2 a3 n3 c3, venV b1 m1 d1 g2 r2 b2 m2 d2 b3 m3 d3] w fun e w' => e = .returned (.bool false) ∧ Below w.heap.size w w' := by
  have hb0 : Below w.heap.size w ((w.alloc (.cells #[.slice a1 n1 c1, .int .i64 g1, .int .i64 r1, .slice a2 n2 c2, .slice a3 n3 c3] 26)).alloc (.cells #[.slice b1 m1 d1, .int .i64 g2, .int .i64 r2, .slice b2 m2 d2, .slice b3 m3 d3] 26)) := ((Below.refl _ w).alloc (Nat.le_refl _) _).alloc (by simp) _
  go_enter Try.func17, Try.ntmps17
  go_wp2_with fail
  refine (hs _ hb0).mono ?_
  rintro e w' ⟨rfl, q, rfl⟩
  have hb1 := hb0.trans ((below_drewN _ q).mono hb0.size)
  go_wp2
  go_ret
  exact ⟨rfl, hb1⟩
set_option maxHeartbeats 1000000 in
theorem same_3 (a1 a2 a3 b1 b2 b3 : Option Addr) (n1 c1 n2 c2 n3 c3 m1 d1 m2 d2 m3 d3 : Nat) (g1 r1 g2 r2 : Int) (x4 : Bool) (w : World)
    (hs : ∀ w', Below w.heap.size w w' → Calls Try.prog 33 #[.slice a1 n1 c1, .slice b1 m1 d1] w' fun e w'' => e = .returned (.bool true) ∧ ∃ q, w'' = w'.drewN q)
    (hk : ∀ w', Below w.heap.size w w' → Calls Try.prog 34 #[.slice a2 n2 c2, .slice b2 m2 d2] w' fun e w'' => e = .returned (.bool false) ∧ ∃ q, w'' = w'.drewN q)
    (hp : ∀ w', Below w.heap.size w w' → Calls Try.prog 35 #[.slice a3 n3 c3, .slice b3 m3 d3] w' fun e w'' => e = .returned (.bool x4) ∧ ∃ q, w'' = w'.drewN q)
    (hg : (g1 == g2) = true) (hr : (r1 == r2) = true) :
    Calls Try.prog 17 #[venV a1 n1 c1 g1 r1 a2 n2 c2 a3 n3 c3, venV b1 m1 d1 g2 r2 b2 m2 d2 b3 m3 d3] w fun e w' => e = .returned (.bool false) ∧ Below w.heap.size w w' := by
  have hb0 : Below w.heap.size w ((w.alloc (.cells #[.slice a1 n1 c1, .int .i64 g1, .int .i64 r1, .slice a2 n2 c2, .slice a3 n3 c3] 26)).alloc (.cells #[.slice b1 m1 d1, .int .i64 g2, .int .i64 r2, .slice b2 m2 d2, .slice b3 m3 d3] 26)) := ((Below.refl _ w).alloc (Nat.le_refl _) _).alloc (by simp) _
  go_enter Try.func17, Try.ntmps17
  go_wp2_with fail
  refine (hs _ hb0).mono ?_
  rintro e w' ⟨rfl, q, rfl⟩
  have hb1 := hb0.trans ((below_drewN _ q).mono hb0.size)
  go_wp2_with fail
  refine (hk _ hb1).mono ?_
  rintro e w' ⟨rfl, q2, rfl⟩
  have hb2 := hb0.trans ((below_drewN _ (q + q2)).mono hb0.size)
  go_wp2
  go_ret
  exact ⟨rfl, hb2⟩
set_option maxHeartbeats 1000000 in
theorem same_4 (a1 a2 a3 b1 b2 b3 : Option Addr) (n1 c1 n2 c2 n3 c3 m1 d1 m2 d2 m3 d3 : Nat) (g1 r1 g2 r2 : Int) (w : World)
    (hs : ∀ w', Below w.heap.size w w' → Calls Try.prog 33 #[.slice a1 n1 c1, .slice b1 m1 d1] w' fun e w'' => e = .returned (.bool true) ∧ ∃ q, w'' = w'.drewN q)
    (hk : ∀ w', Below w.heap.size w w' → Calls Try.prog 34 #[.slice a2 n2 c2, .slice b2 m2 d2] w' fun e w'' => e = .returned (.bool true) ∧ ∃ q, w'' = w'.drewN q)
    (hp : ∀ w', Below w.heap.size w w' → Calls Try.prog 35 #[.slice a3 n3 c3, .slice b3 m3 d3] w' fun e w'' => e = .returned (.bool false) ∧ ∃ q, w'' = w'.drewN q)
    (hg : (g1 == g2) = true) (hr : (r1 == r2) = true) :
    Calls Try.prog 17 #[venV a1 n1 c1 g1 r1 a2 n2 c2 a3 n3 c3, venV b1 m1 d1 g2 r2 b2 m2 d2 b3 m3 d3] w fun e w' => e = .returned (.bool false) ∧ Below w.heap.size w w' := by
  have hb0 : Below w.heap.size w ((w.alloc (.cells #[.slice a1 n1 c1, .int .i64 g1, .int .i64 r1, .slice a2 n2 c2, .slice a3 n3 c3] 26)).alloc (.cells #[.slice b1 m1 d1, .int .i64 g2, .int .i64 r2, .slice b2 m2 d2, .slice b3 m3 d3] 26)) := ((Below.refl _ w).alloc (Nat.le_refl _) _).alloc (by simp) _
  go_enter Try.func17, Try.ntmps17
  go_wp2_with fail
  refine (hs _ hb0).mono ?_
  rintro e w' ⟨rfl, q, rfl⟩
  have hb1 := hb0.trans ((below_drewN _ q).mono hb0.size)
  go_wp2_with fail
  refine (hk _ hb1).mono ?_
  rintro e w' ⟨rfl, q2, rfl⟩
  have hb2 := hb0.trans ((below_drewN _ (q + q2)).mono hb0.size)
  go_wp2_with fail
  refine (hp _ hb2).mono ?_
  rintro e w' ⟨rfl, q3, rfl⟩
  have hb3 := hb0.trans ((below_drewN _ (q + q2 + q3)).mono hb0.size)
  go_wp2
  go_ret
  exact ⟨rfl, hb3⟩
set_option maxHeartbeats 1000000 in
theorem same_5 (a1 a2 a3 b1 b2 b3 : Option Addr) (n1 c1 n2 c2 n3 c3 m1 d1 m2 d2 m3 d3 : Nat) (g1 r1 g2 r2 : Int) (w : World)
    (hs : ∀ w', Below w.heap.size w w' → Calls Try.prog 33 #[.slice a1 n1 c1, .slice b1 m1 d1] w' fun e w'' => e = .returned (.bool true) ∧ ∃ q, w'' = w'.drewN q)
    (hk : ∀ w', Below w.heap.size w w' → Calls Try.prog 34 #[.slice a2 n2 c2, .slice b2 m2 d2] w' fun e w'' => e = .returned (.bool true) ∧ ∃ q, w'' = w'.drewN q)
    (hp : ∀ w', Below w.heap.size w w' → Calls Try.prog 35 #[.slice a3 n3 c3, .slice b3 m3 d3] w' fun e w'' => e = .returned (.bool true) ∧ ∃ q, w'' = w'.drewN q)
    (hg : (g1 == g2) = true) (hr : (r1 == r2) = true) :
    Calls Try.prog 17 #[venV a1 n1 c1 g1 r1 a2 n2 c2 a3 n3 c3, venV b1 m1 d1 g2 r2 b2 m2 d2 b3 m3 d3] w fun e w' => e = .returned (.bool true) ∧ Below w.heap.size w w' := by
  have hb0 : Below w.heap.size w ((w.alloc (.cells #[.slice a1 n1 c1, .int .i64 g1, .int .i64 r1, .slice a2 n2 c2, .slice a3 n3 c3] 26)).alloc (.cells #[.slice b1 m1 d1, .int .i64 g2, .int .i64 r2, .slice b2 m2 d2, .slice b3 m3 d3] 26)) := ((Below.refl _ w).alloc (Nat.le_refl _) _).alloc (by simp) _
  go_enter Try.func17, Try.ntmps17
  go_wp2_with fail
  refine (hs _ hb0).mono ?_
  rintro e w' ⟨rfl, q, rfl⟩
  have hb1 := hb0.trans ((below_drewN _ q).mono hb0.size)
  go_wp2_with fail
  refine (hk _ hb1).mono ?_
  rintro e w' ⟨rfl, q2, rfl⟩
  have hb2 := hb0.trans ((below_drewN _ (q + q2)).mono hb0.size)
  go_wp2_with fail
  refine (hp _ hb2).mono ?_
  rintro e w' ⟨rfl, q3, rfl⟩
  have hb3 := hb0.trans ((below_drewN _ (q + q2 + q3)).mono hb0.size)
  go_wp2
  go_ret
  exact ⟨rfl, hb3⟩
theorem same_any (a1 a2 a3 b1 b2 b3 : Option Addr) (n1 c1 n2 c2 n3 c3 m1 d1 m2 d2 m3 d3 : Nat) (A B : Ven) (w : World) (hA : VenAt w a1 n1 c1 a2 n2 c2 a3 n3 c3 A) (hB : VenAt w b1 m1 d1 b2 m2 d2 b3 m3 d3 B) :
    Calls Try.prog 17 #[venV a1 n1 c1 A.gap A.radius a2 n2 c2 a3 n3 c3, venV b1 m1 d1 B.gap B.radius b2 m2 d2 b3 m3 d3] w fun e w' => e = .returned (.bool (sameB A B)) ∧ Below w.heap.size w w' := by
  have hs : ∀ w', Below w.heap.size w w' → _ := fun w' hb => equal_seat_any A.seats B.seats a1 b1 n1 m1 c1 d1 w' (hA.next hb).s (hB.next hb).s
  have hk : ∀ w', Below w.heap.size w w' → _ := fun w' hb => equal_int_any A.kills B.kills a2 b2 n2 m2 c2 d2 w' (hA.next hb).k (hB.next hb).k
  have hp : ∀ w', Below w.heap.size w w' → _ := fun w' hb => equal_pole_any A.poles B.poles a3 b3 n3 m3 c3 d3 w' (hA.next hb).p (hB.next hb).p
  unfold sameB
  generalize decide (A.seats = B.seats) = x0 at hs ⊢
  generalize decide (A.kills = B.kills) = x3 at hk ⊢
  generalize decide (A.poles = B.poles) = x4 at hp ⊢
  cases x0
  · exact same_0 a1 a2 a3 b1 b2 b3 n1 c1 n2 c2 n3 c3 m1 d1 m2 d2 m3 d3 A.gap A.radius B.gap B.radius x3 x4 w hs hk hp
  by_cases hg : A.gap = B.gap
  · rw [decide_eq_true hg]
    have hg' : (A.gap == B.gap) = true := by simpa using hg
    by_cases hr : A.radius = B.radius
    · rw [decide_eq_true hr]
      have hr' : (A.radius == B.radius) = true := by simpa using hr
      cases x3
      · exact same_3 a1 a2 a3 b1 b2 b3 n1 c1 n2 c2 n3 c3 m1 d1 m2 d2 m3 d3 A.gap A.radius B.gap B.radius x4 w hs hk hp hg' hr'
      cases x4
      · exact same_4 a1 a2 a3 b1 b2 b3 n1 c1 n2 c2 n3 c3 m1 d1 m2 d2 m3 d3 A.gap A.radius B.gap B.radius w hs hk hp hg' hr'
      · exact same_5 a1 a2 a3 b1 b2 b3 n1 c1 n2 c2 n3 c3 m1 d1 m2 d2 m3 d3 A.gap A.radius B.gap B.radius w hs hk hp hg' hr'
    · rw [decide_eq_false hr]
      have hr' : (A.radius == B.radius) = false := by simpa using hr
      exact same_2 a1 a2 a3 b1 b2 b3 n1 c1 n2 c2 n3 c3 m1 d1 m2 d2 m3 d3 A.gap A.radius B.gap B.radius x3 x4 w hs hk hp hg' hr'
  · rw [decide_eq_false hg]
    have hg' : (A.gap == B.gap) = false := by simpa using hg
    exact same_1 a1 a2 a3 b1 b2 b3 n1 c1 n2 c2 n3 c3 m1 d1 m2 d2 m3 d3 A.gap A.radius B.gap B.radius x3 x4 w hs hk hp hg'
end Go.Proofs.Ytoaapngfbidllaa
