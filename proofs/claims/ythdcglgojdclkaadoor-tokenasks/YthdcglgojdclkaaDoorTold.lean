/- told answers true. -/
import Derived.Test.YthdcglgojdclkaaDoorLine
namespace Go.Proofs.YthdcglgojdclkaaDoor
set_option linter.unusedVariables false
open Go.RowKit Go.Shelf
attribute [local go_sem] bget bdrop btake

theorem told_1 : allOf [115, 101, 97, 116, 32, 53, 32, 45, 51, 32, 35, 32, 120, 10, 103, 97, 112] = ([(1, 0, 1, 1, [115, 101, 97, 116]), (2, 5, 1, 6, [53]), (2, -3, 1, 8, [45, 51]), (3, 0, 1, 14, []), (1, 0, 2, 1, [103, 97, 112])], 2, 4, 0) := by kernel_rfl
theorem told_2 : allOf [115, 101, 97, 116, 10, 32, 53, 120] = ([(1, 0, 1, 1, [115, 101, 97, 116]), (3, 0, 1, 5, [])], 2, 3, 2) := by kernel_rfl
theorem told_3 : allOf [97, 32, 45] = ([(1, 0, 1, 1, [97])], 1, 3, 2) := by kernel_rfl
theorem told_4 : nextL [32, 32] 0 2 5 = ((0, 0, 0, 0, []), 2, 2, 7, 4) := by kernel_rfl

theorem told_line (g cap : Nat) (hgc : 5 ≤ cap) (hgm : cap ≤ maxLen) (w : World) (hT : Toks w g 0 [(1, 0, 1, 1, [115, 101, 97, 116]), (2, 5, 1, 6, [53]), (2, -3, 1, 8, [45, 51]), (3, 0, 1, 14, []), (1, 0, 2, 1, [103, 97, 112])]) :
    Calls Tryd.prog 14 #[.slice (some ⟨g, 0, none⟩) 5 cap, .int .i64 0] w fun e w' => ∃ g' cap', e = .returned (.tuple #[.slice (some ⟨g', 0, none⟩) 3 cap', .int .i64 4]) ∧ Below w.heap.size w w' := by
  have h := line_in [(1, 0, 1, 1, [115, 101, 97, 116]), (2, 5, 1, 6, [53]), (2, -3, 1, 8, [45, 51]), (3, 0, 1, 14, []), (1, 0, 2, 1, [103, 97, 112])] g 0 cap (by decide) hgc hgm 0 (by decide) w hT
  refine Calls.mono (show Calls Tryd.prog 14 #[.slice (some ⟨g, 0, none⟩) 5 cap, .int .i64 0] w _ from h) ?_
  rintro e w' ⟨v, rfl, row, hb⟩
  rw [show lineTs _ 0 = [(1, 0, 1, 1, [115, 101, 97, 116]), (2, 5, 1, 6, [53]), (2, -3, 1, 8, [45, 51])] by kernel_rfl] at row
  rcases row.toks with ⟨_, h⟩ | ⟨g', cap', rfl, _⟩
  · cases h
  exact ⟨g', cap', rfl, hb⟩
theorem told_next (w : World) (hR : Rng w) : Calls Tryd.prog 9 #[.string ⟨#[32, 32]⟩, .int .i64 0, .agg #[.int .i64 2, .int .i64 5]] w fun e w' => e = .returned (.tuple #[tokV 0 0 0 0 [], .int .i64 2, .agg #[.int .i64 2, .int .i64 7], .int .i64 4]) ∧ Below w.heap.size w w' := by
  have h := next_any [32, 32] (by decide) 0 (by decide) 2 5 (by decide) (by decide) (by decide) (by decide) w hR
  rw [told_4] at h
  exact h
theorem Toks.alloc {w : World} {b off : Nat} {ts : List Tok} (h : Toks w b off ts) (o : Obj) : Toks (w.alloc o) b off ts := h.next ((Below.refl _ w).alloc (Nat.le_refl _) o)
theorem Rng.alloc {w : World} (h : Rng w) (o : Obj) : Rng (w.alloc o) := h.next ((Below.refl _ w).alloc (Nat.le_refl _) o)
/-- What was there at 'w' is as it was. -/
def Past (w W : World) : Prop := Below w.heap.size w W
theorem Past.next {w W W' : World} (h : Past w W) (hb : Below W.heap.size W W') : Past w W' := Below.trans h (hb.mono h.size)
theorem Past.alloc {w W : World} (h : Past w W) (o : Obj) : Past w (W.alloc o) := Below.alloc h h.size o

set_option maxHeartbeats 2000000 in
set_option maxRecDepth 100000 in
theorem told_any (w : World) (hR : Rng w) :
    Calls Tryd.prog 8 #[] w fun e w' => e = .returned (.bool true) ∧ Below w.heap.size w w' := by
  go_enter Tryd.func8, Tryd.ntmps8
  go_wp2_with fail
  refine (all_any _ (by decide) _ hR _ _ _ _ told_1).mono ?_
  rintro e w1 ⟨v1, rfl, row1, b1⟩
  rcases row1.toks with ⟨_, h⟩ | ⟨g, cap, rfl, hg, hgl, hgc, hgm, tk1⟩
  · cases h
  have R1 := hR.next b1
  have p1 : Past w w1 := b1
  clear row1 hg hgl b1 hR
  go_wp2_with fail
  refine (all_any _ (by decide) _ (by exact R1.alloc _) _ _ _ _ told_2).mono ?_
  rintro e w2 ⟨v2, rfl, row2, b2⟩
  have R2 := (R1.alloc _).next b2
  have p2 := (p1.alloc _).next b2
  have tk2 := (tk1.alloc _).next b2
  have s2 := (Sp.fresh w1 2 4).next b2
  clear row2 b2 R1 p1 tk1
  go_wp2_with fail
  refine (all_any _ (by decide) _ (by exact R2.alloc _) _ _ _ _ told_3).mono ?_
  rintro e w3 ⟨v3, rfl, row3, b3⟩
  have R3 := (R2.alloc _).next b3
  have p3 := (p2.alloc _).next b3
  have tk3 := (tk2.alloc _).next b3
  have s3 := (s2.alloc _).next b3
  have u3 := (Sp.fresh w2 2 3).next b3
  clear row3 b3 R2 p2 tk2 s2
  go_wp2_with fail
  refine (told_line g cap hgc hgm _ (by exact tk3.alloc _)).mono ?_
  rintro e w4 ⟨g', cap', rfl, b4⟩
  have R4 := (R3.alloc _).next b4
  have p4 := (p3.alloc _).next b4
  have tk4 := (tk3.alloc _).next b4
  have s4 := (s3.alloc _).next b4
  have u4 := (u3.alloc _).next b4
  have x4 := (Sp.fresh w3 1 3).next b4
  clear b4 R3 p3 tk3 s3 u3
  go_wp2_with fail
  refine (told_next _ R4).mono ?_
  rintro e w5 ⟨rfl, b5⟩
  have p5 := p4.next b5
  have tk5 := tk4.next b5
  have s5 := s4.next b5
  have u5 := u4.next b5
  have x5 := x4.next b5
  clear b5 R4 p4 tk4 s4 u4 x4
  go_wp2_with fail
  refine (next_arg [] (by decide) 1 (Or.inr (by decide)) 0 0 _).mono ?_
  rintro e w6 ⟨rfl, b6⟩
  have p6 := ((p5.alloc _).alloc _).next b6
  have tk6 := ((tk5.alloc _).alloc _).next b6
  have s6 := ((s5.alloc _).alloc _).next b6
  have u6 := ((u5.alloc _).alloc _).next b6
  have x6 := ((x5.alloc _).alloc _).next b6
  have y6 : Sp w6 (w5.heap.size + 1) 2 7 := by
    have h := (Sp.fresh (w5.alloc (.cells #[.int .i64 0, .int .i64 0, .int .i64 0, .int .i64 0, .string ⟨#[]⟩] 27)) 2 7).next b6
    simpa using h
  clear b6 p5 tk5 s5 u5 x5
  obtain ⟨c0, c1, c2, c3, c4⟩ := tk6.at 0 (by decide)
  obtain ⟨d0, d1, d2, d3, d4⟩ := tk6.at 2 (by decide)
  obtain ⟨e0, e1, e2, e3, e4⟩ := tk6.at 3 (by decide)
  have lg := tk6.1
  have ls := s6.lt
  have lu := u6.lt
  have lx := x6.lt
  have ly := y6.lt
  have ly' : w5.heap.size < w6.heap.size := by omega
  obtain ⟨s60, s61, _, _⟩ := s6
  obtain ⟨u60, u61, _, _⟩ := u6
  obtain ⟨x60, x61, _, _⟩ := x6
  obtain ⟨y60, y61, _, _⟩ := y6
  simp at c0 c1 c2 c3 c4 d0 d1 d2 d3 d4 e0 e1 e2 e3 e4
  go_wp2
  go_ret
  exact ⟨rfl, (p6.alloc _).alloc _⟩
end Go.Proofs.YthdcglgojdclkaaDoor
