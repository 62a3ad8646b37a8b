/- venue.compare, venue.Less, venue.seatMay by contracts. -/
import Derived.Test.YtbmmjbklfheghaaVReg
import Derived.Sort.Grow
namespace Go.Proofs.Ytbmmjbklfheghaa.Ven
set_option linter.unusedVariables false
set_option maxRecDepth 100000
open Go.RowKit

/-- What is as 'w', some draws on, with new blocks behind. -/
def Grew (w w' : World) : Prop := ∃ q os, w' = Go.Sort.grow (w.drewN q) os
theorem drew_one (w : World) : w.drew = w.drewN 1 := rfl
theorem drewN_add (w : World) (a b : Nat) : (w.drewN a).drewN b = w.drewN (a + b) := by simp [World.drewN, Nat.add_assoc]
theorem Grew.refl (w : World) : Grew w w := ⟨0, #[], by simp [World.drewN]⟩
theorem Grew.trans {a b c : World} (h : Grew a b) (h' : Grew b c) : Grew a c := by
  obtain ⟨q, os, rfl⟩ := h
  obtain ⟨q', os', rfl⟩ := h'
  refine ⟨q + q', os ++ os', ?_⟩
  rw [← Go.Sort.grow_grow]
  show Go.Sort.grow (Go.Sort.grow ((a.drewN q).drewN q') os) os' = _
  rw [drewN_add]
theorem Grew.alloc (w : World) (o : Obj) : Grew w (w.alloc o) := ⟨0, #[o], by rw [Go.Sort.alloc_eq_grow]; rfl⟩
theorem Grew.drew (w : World) : Grew w w.drew := ⟨1, #[], by simp [drew_one]⟩
theorem Grew.below {w w' : World} (h : Grew w w') : Below w.heap.size w w' := by
  obtain ⟨q, os, rfl⟩ := h
  exact { os := rfl, tape := rfl, output := rfl, size := by rw [Go.Sort.size_grow]; exact Nat.le_add_right _ _, block := fun k hk => Go.Sort.heap_grow_old (w.drewN q) os hk }

set_option maxHeartbeats 1000000 in
theorem compare_any (r1 x1 y1 k1 r2 x2 y2 k2 : Int) (w : World) :
    Calls Try.prog 56 #[seatV r1 x1 y1 k1, seatV r2 x2 y2 k2] w fun e w' => e = .returned (.int .i64 (cmpS ⟨r1, x1, y1, k1⟩ ⟨r2, x2, y2, k2⟩)) ∧ Grew w w' := by
  unfold cmpS
  have h1 := cmpCompare_any r1 r2
  have h2 := cmpCompare_any x1 x2
  show Calls Try.prog 56 _ _ fun e w' => e = .returned (.int .i64 (if cmpI r1 r2 = 0 then cmpI x1 x2 else cmpI r1 r2)) ∧ Grew w w'
  generalize cmpI r1 r2 = p at h1 ⊢
  generalize cmpI x1 x2 = q at h2 ⊢
  generalize hz : (if p = 0 then q else p) = z
  go_enter Try.func56, Try.ntmps56
  go_wp2_with fail
  refine region36 _ r1 x1 r2 x2 p q _ _ _ rfl rfl rfl ?_ ?_ ?_ ?_ h1 h2 ?_
  · simp
  · simp
  · simp
  · simp
  · rintro W' ⟨o, rfl⟩
    rw [hz]
    simp only [putAll, List.setIfInBounds_toArray, List.set_cons_succ, List.set_cons_zero]
    go_wp2
    go_ret
    exact ⟨rfl, (((Grew.alloc _ _).trans (Grew.alloc _ _)).trans (Grew.alloc _ _)).trans (Grew.drew _)⟩

theorem less_any (r1 x1 y1 k1 r2 x2 y2 k2 : Int) (w : World) :
    Calls Try.prog 52 #[seatV r1 x1 y1 k1, seatV r2 x2 y2 k2] w fun e w' => e = .returned (.bool (ltS ⟨r1, x1, y1, k1⟩ ⟨r2, x2, y2, k2⟩)) ∧ Grew w w' := by
  rw [ltS_cmp]
  have h := compare_any r1 x1 y1 k1 r2 x2 y2 k2
  generalize cmpS ⟨r1, x1, y1, k1⟩ ⟨r2, x2, y2, k2⟩ = c at h ⊢
  go_enter Try.func52, Try.ntmps52
  go_wp2_with fail
  refine (h _).mono ?_
  rintro e w' ⟨rfl, hg⟩
  go_wp2
  all_goals go_ret
  all_goals exact ⟨ret_bool (by first | rfl | (symm; simpa using ‹_›)), ((Grew.alloc _ _).trans (Grew.alloc _ _)).trans hg⟩
theorem seatMay_any (r x y k : Int) (w : World) :
    Calls Try.prog 51 #[seatV r x y k] w fun e w' => e = .returned (.bool (seatB ⟨r, x, y, k⟩)) ∧ Grew w w' := by
  unfold seatB
  show Calls Try.prog 51 _ _ fun e w' => e = .returned (.bool (rowB r && standsB x y && kindB k)) ∧ Grew w w'
  have h1 := fits_row r
  have h2 := stands_any x y
  have h3 := fits_kind k
  generalize rowB r = a at h1 ⊢
  generalize standsB x y = b at h2 ⊢
  generalize kindB k = c at h3 ⊢
  cases a
  · go_enter Try.func51, Try.ntmps51
    go_wp2_with fail
    refine (h1 _).mono ?_
    rintro e w' ⟨rfl, rfl⟩
    go_wp2
    go_ret
    exact ⟨rfl, Grew.alloc _ _⟩
  · cases b
    · go_enter Try.func51, Try.ntmps51
      go_wp2_with fail
      refine (h1 _).mono ?_
      rintro e w' ⟨rfl, rfl⟩
      go_wp2_with fail
      refine (h2 _).mono ?_
      rintro e w' ⟨rfl, rfl⟩
      go_wp2
      go_ret
      exact ⟨rfl, Grew.alloc _ _⟩
    · go_enter Try.func51, Try.ntmps51
      go_wp2_with fail
      refine (h1 _).mono ?_
      rintro e w' ⟨rfl, rfl⟩
      go_wp2_with fail
      refine (h2 _).mono ?_
      rintro e w' ⟨rfl, rfl⟩
      go_wp2_with fail
      refine (h3 _).mono ?_
      rintro e w' ⟨rfl, rfl⟩
      go_wp2
      go_ret
      exact ⟨rfl, Grew.alloc _ _⟩
end Go.Proofs.Ytbmmjbklfheghaa.Ven
