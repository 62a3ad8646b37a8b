/- The statement of venue.Norm that copies: it draws its order: by an invariant. -/
import Derived.Test.YtgpkdjhllekihaaGreatDoorVBox
import Derived.Test.YtgpkdjhllekihaaGreatDoorVInv
namespace Go.Proofs.YtgpkdjhllekihaaGreatDoor.Ven
set_option linter.unusedVariables false
set_option maxRecDepth 100000
open Go.RowKit Go.Shelf

theorem below_allocA (w : World) (o : Obj) : Below w.heap.size w (w.alloc o) := (Below.refl _ w).alloc (Nat.le_refl _) o
set_option maxHeartbeats 8000000 in
theorem region11_6 {Q : Exit → Act → World → Prop} (a0 : Act) (a1 a2 a3 : Option Addr) (n1 c1 n2 c2 n3 c3 : Nat) (gap radius : Int) (l : List Pole) (h200 : l.length ≤ 200) (B1 : Nat) (W : World) (hsz0 : a0.tmps.size = 75) (h1 : a0.tmps[1]? = some (.pointer (some ⟨B1, 0, none⟩)))
  (hV0 : Box W B1 33 #[.slice a1 n1 c1, .int .i64 gap, .int .i64 radius, .slice a2 n2 c2, .slice a3 n3 c3]) (hP0 : Sl 3 poleC W (.slice a3 n3 c3) l)
  (hQ : ∀ W' g ap np cp, W.heap.size ≤ g → Below W.heap.size W W' → Box W' g 33 #[.slice none 0 0, .int .i64 gap, .int .i64 radius, .slice none 0 0, .slice ap np cp] → W'.ownsRow W.heap.size 74 3 (.slice ap np cp) l.length (l.flatMap poleC) → Q .normal { tmps := putAll a0.tmps [(32, .pointer (some ⟨B1, 1, none⟩)), (33, .int .i64 gap), (34, .pointer (some ⟨B1, 2, none⟩)), (35, .int .i64 radius), (36, .pointer (some ⟨B1, 4, none⟩)), (37, .slice a3 n3 c3), (38, .slice ap np cp), (39, venV none 0 0 gap radius none 0 0 ap np cp), (6, .pointer (some ⟨g, 0, none⟩))], defers := a0.defers } W') :
  (Code.region 6 #[{ dst := some 32, op := Op.fieldAddr 33 (Operand.tmp 1) 1, type := 0, pos := "venue.go:53", after := #[], guard := none }, { dst := some 33, op := Op.load 3 (Operand.tmp 32), type := 3, pos := "venue.go:53", after := #[{ on := 0, ground := Ground.data }], guard := none }, { dst := some 34, op := Op.fieldAddr 33 (Operand.tmp 1) 2, type := 0, pos := "venue.go:53", after := #[], guard := none }, { dst := some 35, op := Op.load 3 (Operand.tmp 34), type := 3, pos := "venue.go:53", after := #[{ on := 2, ground := Ground.data }], guard := none }, { dst := some 36, op := Op.fieldAddr 33 (Operand.tmp 1) 4, type := 0, pos := "venue.go:53", after := #[], guard := none }, { dst := some 37, op := Op.load 31 (Operand.tmp 36), type := 31, pos := "venue.go:53", after := #[{ on := 4, ground := Ground.data }], guard := none }, { dst := some 38, op := Op.call { callee := Callee.builtin Builtin.append, args := #[Operand.const (Value.slice none 0 0), Operand.tmp 37], argTypes := #[31, 31] }, type := 31, pos := "venue.go:53", after := #[{ on := 5, ground := Ground.data }], guard := none }, { dst := some 39, op := Op.build 33 #[(1, Operand.tmp 33), (2, Operand.tmp 35), (4, Operand.tmp 38)], type := 33, pos := "venue.go:53", after := #[{ on := 1, ground := Ground.data }, { on := 3, ground := Ground.data }, { on := 6, ground := Ground.data }], guard := none }, { dst := some 6, op := Op.alloc 33, type := 0, pos := "venue.go:53", after := #[], guard := none }, { dst := none, op := Op.store 33 (Operand.tmp 6) (Operand.tmp 39), type := 0, pos := "venue.go:53", after := #[{ on := 8, ground := Ground.data }, { on := 7, ground := Ground.data }, { on := 6, ground := Ground.chain }, { on := 0, ground := Ground.phase }, { on := 1, ground := Ground.phase }, { on := 2, ground := Ground.phase }, { on := 3, ground := Ground.phase }, { on := 4, ground := Ground.phase }, { on := 5, ground := Ground.phase }, { on := 6, ground := Ground.phase }, { on := 7, ground := Ground.phase }, { on := 8, ground := Ground.phase }], guard := none }] true).wp Tryz.prog Q a0 W := by
 have hn : ([some 32, some 33, some 34, some 35, some 36, some 37, some 38, some 39, some 6, none] : List (Option Nat)).Pairwise (fun x y => x = none ∨ x ≠ y) := of_decide_eq_true (by kernel_rfl)
 refine wp_region_inv (by kernel_rfl) (fun listed a w => Slots a0 [some 32, some 33, some 34, some 35, some 36, some 37, some 38, some 39, some 6, none] [some (.pointer (some ⟨B1, 1, none⟩)), some (.int .i64 gap), some (.pointer (some ⟨B1, 2, none⟩)), some (.int .i64 radius), some (.pointer (some ⟨B1, 4, none⟩)), some (.slice a3 n3 c3), none, none, none, none] listed a ∧ Below W.heap.size W w ∧ (listed.getD 6 false = true → ∃ ap np cp, a.tmps[38]? = some (.slice ap np cp) ∧ w.ownsRow W.heap.size 74 3 (.slice ap np cp) l.length (l.flatMap poleC) ∧ (listed.getD 7 false = true → a.tmps[39]? = some (venV none 0 0 gap radius none 0 0 ap np cp)) ∧ (listed.getD 9 false = true → ∃ g, a.tmps[6]? = some (.pointer (some ⟨g, 0, none⟩)) ∧ W.heap.size ≤ g ∧ Box w g 33 #[.slice none 0 0, .int .i64 gap, .int .i64 radius, .slice none 0 0, .slice ap np cp])) ∧ (listed.getD 8 false = true → listed.getD 9 false = false → ∃ g, a.tmps[6]? = some (.pointer (some ⟨g, 0, none⟩)) ∧ W.heap.size ≤ g ∧ Box w g 33 #[.slice none 0 0, .int .i64 0, .int .i64 0, .slice none 0 0, .slice none 0 0])) (by kernel_rfl) ?_ ?_ ?_
 ·exact ⟨Slots.start _ _ _ _, (Below.refl _ W).drew, fun h => (by rw [start_false] at h; cases h), fun h => (by rw [start_false] at h; cases h)⟩
 ·intro listed a w i' hsl hilt hl hd hcl ⟨hS, hb, hA, hG⟩
  have hsz : Hid (a.tmps.size = 75) := hS.size.trans hsz0
  have hls : i' < listed.size := by rw [hsl]; exact hilt
  have hcase : i' = 0 ∨ i' = 1 ∨ i' = 2 ∨ i' = 3 ∨ i' = 4 ∨ i' = 5 ∨ i' = 6 ∨ i' = 7 ∨ i' = 8 ∨ i' = 9 := by
   have : i' < 10 := hilt
   omega
  rcases hcase with rfl | rfl | rfl | rfl | rfl | rfl | rfl | rfl | rfl | rfl
  ·
   refine wpOp_step rfl ?_
   intro K hK
   have q1 : a.tmps[1]? = some (.pointer (some ⟨B1, 0, none⟩)) := (hS.keep 1 (of_decide_eq_true (by kernel_rfl))).trans h1
   have ml := (hV0.next hb).lt
   have m0 := (hV0.next hb).cell 0 _ rfl
   go_simp
   exact hK _ _ ⟨hS.put hn 0 32 _ rfl (by rw [hsz0]; omega) (fun u h => by injection h with h; injection h with h; exact h.symm), hb, fun h => (by
    rw [getD_set hls, if_neg (by omega)] at h
    obtain ⟨ap, np, cp, s1, ho, s2, s3⟩ := hA h
    refine ⟨ap, np, cp, by simpa using s1, ho, fun h' => ?_, fun h' => ?_⟩
    ·rw [getD_set hls, if_neg (by omega)] at h'
     simpa using s2 h'
    ·rw [getD_set hls, if_neg (by omega)] at h'
     obtain ⟨g, t1, t2, t3⟩ := s3 h'
     exact ⟨g, by simpa using t1, t2, t3⟩), fun h h' => (by
    rw [getD_set hls, if_neg (by omega)] at h h'
    obtain ⟨g, t1, t2, t3⟩ := hG h h'
    exact ⟨g, by simpa using t1, t2, t3⟩)⟩
  ·
   refine wpOp_step rfl ?_
   intro K hK
   have q32 : a.tmps[32]? = some (.pointer (some ⟨B1, 1, none⟩)) := hS.val 0 32 _ (hd 0 (of_decide_eq_true (by kernel_rfl))) rfl rfl
   have m0 := (hV0.next hb).cell 1 _ rfl
   go_simp
   exact hK _ _ ⟨hS.put hn 1 33 _ rfl (by rw [hsz0]; omega) (fun u h => by injection h with h; injection h with h; exact h.symm), hb, fun h => (by
    rw [getD_set hls, if_neg (by omega)] at h
    obtain ⟨ap, np, cp, s1, ho, s2, s3⟩ := hA h
    refine ⟨ap, np, cp, by simpa using s1, ho, fun h' => ?_, fun h' => ?_⟩
    ·rw [getD_set hls, if_neg (by omega)] at h'
     simpa using s2 h'
    ·rw [getD_set hls, if_neg (by omega)] at h'
     obtain ⟨g, t1, t2, t3⟩ := s3 h'
     exact ⟨g, by simpa using t1, t2, t3⟩), fun h h' => (by
    rw [getD_set hls, if_neg (by omega)] at h h'
    obtain ⟨g, t1, t2, t3⟩ := hG h h'
    exact ⟨g, by simpa using t1, t2, t3⟩)⟩
  ·
   refine wpOp_step rfl ?_
   intro K hK
   have q1 : a.tmps[1]? = some (.pointer (some ⟨B1, 0, none⟩)) := (hS.keep 1 (of_decide_eq_true (by kernel_rfl))).trans h1
   have ml := (hV0.next hb).lt
   have m0 := (hV0.next hb).cell 0 _ rfl
   go_simp
   exact hK _ _ ⟨hS.put hn 2 34 _ rfl (by rw [hsz0]; omega) (fun u h => by injection h with h; injection h with h; exact h.symm), hb, fun h => (by
    rw [getD_set hls, if_neg (by omega)] at h
    obtain ⟨ap, np, cp, s1, ho, s2, s3⟩ := hA h
    refine ⟨ap, np, cp, by simpa using s1, ho, fun h' => ?_, fun h' => ?_⟩
    ·rw [getD_set hls, if_neg (by omega)] at h'
     simpa using s2 h'
    ·rw [getD_set hls, if_neg (by omega)] at h'
     obtain ⟨g, t1, t2, t3⟩ := s3 h'
     exact ⟨g, by simpa using t1, t2, t3⟩), fun h h' => (by
    rw [getD_set hls, if_neg (by omega)] at h h'
    obtain ⟨g, t1, t2, t3⟩ := hG h h'
    exact ⟨g, by simpa using t1, t2, t3⟩)⟩
  ·
   refine wpOp_step rfl ?_
   intro K hK
   have q34 : a.tmps[34]? = some (.pointer (some ⟨B1, 2, none⟩)) := hS.val 2 34 _ (hd 2 (of_decide_eq_true (by kernel_rfl))) rfl rfl
   have m0 := (hV0.next hb).cell 2 _ rfl
   go_simp
   exact hK _ _ ⟨hS.put hn 3 35 _ rfl (by rw [hsz0]; omega) (fun u h => by injection h with h; injection h with h; exact h.symm), hb, fun h => (by
    rw [getD_set hls, if_neg (by omega)] at h
    obtain ⟨ap, np, cp, s1, ho, s2, s3⟩ := hA h
    refine ⟨ap, np, cp, by simpa using s1, ho, fun h' => ?_, fun h' => ?_⟩
    ·rw [getD_set hls, if_neg (by omega)] at h'
     simpa using s2 h'
    ·rw [getD_set hls, if_neg (by omega)] at h'
     obtain ⟨g, t1, t2, t3⟩ := s3 h'
     exact ⟨g, by simpa using t1, t2, t3⟩), fun h h' => (by
    rw [getD_set hls, if_neg (by omega)] at h h'
    obtain ⟨g, t1, t2, t3⟩ := hG h h'
    exact ⟨g, by simpa using t1, t2, t3⟩)⟩
  ·
   refine wpOp_step rfl ?_
   intro K hK
   have q1 : a.tmps[1]? = some (.pointer (some ⟨B1, 0, none⟩)) := (hS.keep 1 (of_decide_eq_true (by kernel_rfl))).trans h1
   have ml := (hV0.next hb).lt
   have m0 := (hV0.next hb).cell 0 _ rfl
   go_simp
   exact hK _ _ ⟨hS.put hn 4 36 _ rfl (by rw [hsz0]; omega) (fun u h => by injection h with h; injection h with h; exact h.symm), hb, fun h => (by
    rw [getD_set hls, if_neg (by omega)] at h
    obtain ⟨ap, np, cp, s1, ho, s2, s3⟩ := hA h
    refine ⟨ap, np, cp, by simpa using s1, ho, fun h' => ?_, fun h' => ?_⟩
    ·rw [getD_set hls, if_neg (by omega)] at h'
     simpa using s2 h'
    ·rw [getD_set hls, if_neg (by omega)] at h'
     obtain ⟨g, t1, t2, t3⟩ := s3 h'
     exact ⟨g, by simpa using t1, t2, t3⟩), fun h h' => (by
    rw [getD_set hls, if_neg (by omega)] at h h'
    obtain ⟨g, t1, t2, t3⟩ := hG h h'
    exact ⟨g, by simpa using t1, t2, t3⟩)⟩
  ·
   refine wpOp_step rfl ?_
   intro K hK
   have q36 : a.tmps[36]? = some (.pointer (some ⟨B1, 4, none⟩)) := hS.val 4 36 _ (hd 4 (of_decide_eq_true (by kernel_rfl))) rfl rfl
   have m0 := (hV0.next hb).cell 4 _ rfl
   go_simp
   exact hK _ _ ⟨hS.put hn 5 37 _ rfl (by rw [hsz0]; omega) (fun u h => by injection h with h; injection h with h; exact h.symm), hb, fun h => (by
    rw [getD_set hls, if_neg (by omega)] at h
    obtain ⟨ap, np, cp, s1, ho, s2, s3⟩ := hA h
    refine ⟨ap, np, cp, by simpa using s1, ho, fun h' => ?_, fun h' => ?_⟩
    ·rw [getD_set hls, if_neg (by omega)] at h'
     simpa using s2 h'
    ·rw [getD_set hls, if_neg (by omega)] at h'
     obtain ⟨g, t1, t2, t3⟩ := s3 h'
     exact ⟨g, by simpa using t1, t2, t3⟩), fun h h' => (by
    rw [getD_set hls, if_neg (by omega)] at h h'
    obtain ⟨g, t1, t2, t3⟩ := hG h h'
    exact ⟨g, by simpa using t1, t2, t3⟩)⟩
  ·
   refine wpOp_step rfl ?_
   intro K hK
   have q37 : a.tmps[37]? = some (.slice a3 n3 c3) := hS.val 5 37 _ (hd 5 (of_decide_eq_true (by kernel_rfl))) rfl rfl
   have y7 : listed.getD 7 false = false := by
    cases h : listed.getD 7 false with
    | false => rfl
    | true => have := hcl 7 6 h (of_decide_eq_true (by kernel_rfl)); rw [hl] at this; cases this
   have y9 : listed.getD 9 false = false := by
    cases h : listed.getD 9 false with
    | false => rfl
    | true => have := hcl 9 6 h (of_decide_eq_true (by kernel_rfl)); rw [hl] at this; cases this
   refine step_copy rfl rfl _ rfl W.heap.size a3 n3 c3 l (eval_of q37) (hP0.next hb) h200 hb.size ?_
   intro v' w' hown hgr
   have hb2 : Below w.heap.size w w' := ⟨hgr.os, hgr.tape, hgr.output, hgr.size, fun k hk => hgr.block k hk (fun e => by cases e)⟩
   obtain ⟨ap, cp, rfl⟩ := row_slice hown
   have hs2 : 38 < a.tmps.size := by rw [hsz.out]; omega
   refine hK _ _ ⟨hS.put hn 6 38 _ rfl (by rw [hsz0]; omega) (fun u h => by cases h), hb.trans (hb2.mono hb.size), fun _ => ⟨ap, _, cp, by simp [Act.put, hs2], hown, fun h' => ?_, fun h' => ?_⟩, fun h h' => ?_⟩
   ·rw [getD_set hls, if_neg (by omega), y7] at h'; cases h'
   ·rw [getD_set hls, if_neg (by omega), y9] at h'; cases h'
   ·rw [getD_set hls, if_neg (by omega)] at h h'
    obtain ⟨g, t1, t2, t3⟩ := hG h h'
    exact ⟨g, by simpa [Act.put] using t1, t2, t3.next hb2⟩
  ·
   refine wpOp_step rfl ?_
   intro K hK
   have q33 : a.tmps[33]? = some (.int .i64 gap) := hS.val 1 33 _ (hd 1 (of_decide_eq_true (by kernel_rfl))) rfl rfl
   have q35 : a.tmps[35]? = some (.int .i64 radius) := hS.val 3 35 _ (hd 3 (of_decide_eq_true (by kernel_rfl))) rfl rfl
   have y9 : listed.getD 9 false = false := by
    cases h : listed.getD 9 false with
    | false => rfl
    | true => have := hcl 9 7 h (of_decide_eq_true (by kernel_rfl)); rw [hl] at this; cases this
   obtain ⟨ap, np, cp, s1, ho, s2, s3⟩ := hA (hd 6 (of_decide_eq_true (by kernel_rfl)))
   have hs2 : 39 < a.tmps.size := by rw [hsz.out]; omega
   go_simp
   refine hK _ _ ⟨hS.put hn 7 39 _ rfl (by rw [hsz0]; omega) (fun u h => by cases h), hb, fun _ => ⟨ap, np, cp, by simpa using s1, ho, fun _ => ?_, fun h' => ?_⟩, fun h h' => (by
    rw [getD_set hls, if_neg (by omega)] at h h'
    obtain ⟨g, t1, t2, t3⟩ := hG h h'
    exact ⟨g, by simpa using t1, t2, t3⟩)⟩
   ·simp [hs2]
   ·rw [getD_set hls, if_neg (by omega), y9] at h'; cases h'
  ·
   refine wpOp_step rfl ?_
   intro K hK
   have y9 : listed.getD 9 false = false := by
    cases h : listed.getD 9 false with
    | false => rfl
    | true => have := hcl 9 8 h (of_decide_eq_true (by kernel_rfl)); rw [hl] at this; cases this
   have hb2 := below_allocA w (.cells #[.slice none 0 0, .int .i64 0, .int .i64 0, .slice none 0 0, .slice none 0 0] 33)
   have hs2 : 6 < a.tmps.size := by rw [hsz.out]; omega
   go_simp
   exact hK _ _ ⟨hS.put hn 8 6 _ rfl (by rw [hsz0]; omega) (fun u h => by cases h), hb.trans (hb2.mono hb.size), fun h => (by
    rw [getD_set hls, if_neg (by omega)] at h
    obtain ⟨ap, np, cp, s1, ho, s2, s3⟩ := hA h
    refine ⟨ap, np, cp, by simpa using s1, row_next ho hb2, fun h' => ?_, fun h' => ?_⟩
    ·rw [getD_set hls, if_neg (by omega)] at h'
     simpa using s2 h'
    ·rw [getD_set hls, if_neg (by omega), y9] at h'; cases h'), fun _ _ => ⟨w.heap.size, by simp [hs2], hb.size, Box.fresh w _ _⟩⟩
  ·
   refine wpOp_step rfl ?_
   intro K hK
   obtain ⟨ap, np, cp, s1, ho, s2, _⟩ := hA (hd 6 (of_decide_eq_true (by kernel_rfl)))
   have q39 := s2 (hd 7 (of_decide_eq_true (by kernel_rfl)))
   obtain ⟨g, q6, hge, hB⟩ := hG (hd 8 (of_decide_eq_true (by kernel_rfl))) hl
   have r0 := hB.cell 0 _ rfl
   have f0 := hB.frozen 0
   have r1 := hB.cell 1 _ rfl
   have f1 := hB.frozen 1
   have r2 := hB.cell 2 _ rfl
   have f2 := hB.frozen 2
   have r3 := hB.cell 3 _ rfl
   have f3 := hB.frozen 3
   have r4 := hB.cell 4 _ rfl
   have f4 := hB.frozen 4
   have bl := hB.lt
   go_simp
   refine hK _ _ ⟨hS.skip 9 rfl, ?_, fun _ => ⟨ap, np, cp, s1, ?_, fun _ => q39, fun _ => ⟨g, q6, hge, ?_⟩⟩, fun h h' => ?_⟩
   ·exact Below.setCell (Below.setCell (Below.setCell (Below.setCell (Below.setCell hb hge _) hge _) hge _) hge _) hge _
   ·have hne : 33 ≠ 74 := by decide
    have B0 := hB.set 0 (.slice none 0 0)
    have B1' := B0.set 1 (.int .i64 gap)
    have B2' := B1'.set 2 (.int .i64 radius)
    have B3' := B2'.set 3 (.slice none 0 0)
    exact row_setCell (row_setCell (row_setCell (row_setCell (row_setCell ho hB hne 0 _) B0 hne 1 _) B1' hne 2 _) B2' hne 3 _) B3' hne 4 _
   ·exact ((((hB.set 0 (.slice none 0 0)).set 1 (.int .i64 gap)).set 2 (.int .i64 radius)).set 3 (.slice none 0 0)).set 4 (.slice ap np cp)
   ·rw [getD_set hls, if_pos rfl] at h'; cases h'
 ·intro listed a w hall ⟨hS, hb, hA, hG⟩
  obtain ⟨ap, np, cp, s1, ho, s2, s3⟩ := hA (hall 6 (by decide))
  have s4 := s2 (hall 7 (by decide))
  obtain ⟨g, t1, t2, t3⟩ := s3 (hall 9 (by decide))
  have hf := hS.frame [(32, .pointer (some ⟨B1, 1, none⟩)), (33, .int .i64 gap), (34, .pointer (some ⟨B1, 2, none⟩)), (35, .int .i64 radius), (36, .pointer (some ⟨B1, 4, none⟩)), (37, .slice a3 n3 c3), (38, .slice ap np cp), (39, venV none 0 0 gap radius none 0 0 ap np cp), (6, .pointer (some ⟨g, 0, none⟩))] rfl (of_decide_eq_true (by kernel_rfl)) (by
   simp only [List.map_cons, List.map_nil, List.all_cons, List.all_nil, hsz0]; rfl) (by
   intro p hp
   simp only [List.mem_cons, List.not_mem_nil, or_false] at hp
   rcases hp with rfl | rfl | rfl | rfl | rfl | rfl | rfl | rfl | rfl
   ·exact hS.val 0 32 _ (hall 0 (by decide)) rfl rfl
   ·exact hS.val 1 33 _ (hall 1 (by decide)) rfl rfl
   ·exact hS.val 2 34 _ (hall 2 (by decide)) rfl rfl
   ·exact hS.val 3 35 _ (hall 3 (by decide)) rfl rfl
   ·exact hS.val 4 36 _ (hall 4 (by decide)) rfl rfl
   ·exact hS.val 5 37 _ (hall 5 (by decide)) rfl rfl
   ·exact s1
   ·exact s4
   ·exact t1)
  rw [hf]
  exact hQ w g ap np cp t2 hb t3 ho
end Go.Proofs.YtgpkdjhllekihaaGreatDoor.Ven
