/- One statement of venue.compare: it draws its order: by an invariant. -/
import Derived.Test.YtbmmjbklfheghaaVInvK
namespace Go.Proofs.Ytbmmjbklfheghaa.Ven
set_option linter.unusedVariables false
set_option maxRecDepth 100000
open Go.RowKit

set_option maxHeartbeats 4000000 in
theorem region36 {Q : Exit → Act → World → Prop} (a0 : Act) (r1 x1 r2 x2 p q : Int) (b1 b2 : Nat) (W : World) (hsz0 : a0.tmps.size = 17) (h2 : a0.tmps[2]? = some (.pointer (some ⟨b1, 0, none⟩))) (h3 : a0.tmps[3]? = some (.pointer (some ⟨b2, 0, none⟩)))
    (c10 : W.cell? ⟨b1, 0, none⟩ = some (.int .i64 r1)) (c11 : W.cell? ⟨b1, 1, none⟩ = some (.int .i64 x1)) (c20 : W.cell? ⟨b2, 0, none⟩ = some (.int .i64 r2)) (c21 : W.cell? ⟨b2, 1, none⟩ = some (.int .i64 x2))
    (h1 : ∀ w, Calls Try.prog 58 #[.int .i64 r1, .int .i64 r2] w fun e w' => e = .returned (.int .i64 p) ∧ w' = w) (hc2 : ∀ w, Calls Try.prog 58 #[.int .i64 x1, .int .i64 x2] w fun e w' => e = .returned (.int .i64 q) ∧ w' = w)
    (hQ : ∀ W', (∃ o, W' = (W.alloc o).drew) → Q .normal { tmps := putAll a0.tmps [(5, .pointer (some ⟨b1, 0, none⟩)), (6, .int .i64 r1), (7, .pointer (some ⟨b2, 0, none⟩)), (8, .int .i64 r2), (9, .int .i64 p), (10, .pointer (some ⟨b1, 1, none⟩)), (11, .int .i64 x1), (12, .pointer (some ⟨b2, 1, none⟩)), (13, .int .i64 x2), (14, .int .i64 q), (15, .slice (some ⟨W.heap.size, 0, none⟩) 2 2), (16, .int .i64 (if p = 0 then q else p)), (4, .int .i64 (if p = 0 then q else p))], defers := a0.defers } W') :
    (Code.region 1 #[{ dst := some 5, op := Op.fieldAddr 44 (Operand.tmp 2) 0, type := 0, pos := "parts.go:46", after := #[], guard := none }, { dst := some 6, op := Op.load 3 (Operand.tmp 5), type := 3, pos := "parts.go:46", after := #[{ on := 0, ground := Ground.data }], guard := none }, { dst := some 7, op := Op.fieldAddr 44 (Operand.tmp 3) 0, type := 0, pos := "parts.go:46", after := #[], guard := none }, { dst := some 8, op := Op.load 3 (Operand.tmp 7), type := 3, pos := "parts.go:46", after := #[{ on := 2, ground := Ground.data }], guard := none }, { dst := some 9, op := Op.call { callee := Callee.value (Operand.func 58), args := #[Operand.tmp 6, Operand.tmp 8], argTypes := #[3, 3] }, type := 3, pos := "parts.go:46", after := #[{ on := 1, ground := Ground.data }, { on := 3, ground := Ground.data }], guard := none }, { dst := some 10, op := Op.fieldAddr 44 (Operand.tmp 2) 1, type := 0, pos := "parts.go:46", after := #[], guard := none }, { dst := some 11, op := Op.load 3 (Operand.tmp 10), type := 3, pos := "parts.go:46", after := #[{ on := 5, ground := Ground.data }], guard := none }, { dst := some 12, op := Op.fieldAddr 44 (Operand.tmp 3) 1, type := 0, pos := "parts.go:46", after := #[], guard := none }, { dst := some 13, op := Op.load 3 (Operand.tmp 12), type := 3, pos := "parts.go:46", after := #[{ on := 7, ground := Ground.data }], guard := none }, { dst := some 14, op := Op.call { callee := Callee.value (Operand.func 58), args := #[Operand.tmp 11, Operand.tmp 13], argTypes := #[3, 3] }, type := 3, pos := "parts.go:46", after := #[{ on := 6, ground := Ground.data }, { on := 8, ground := Ground.data }, { on := 4, ground := Ground.chain }], guard := none }, { dst := some 15, op := Op.buildSlice 23 2 #[(0, Operand.tmp 9), (1, Operand.tmp 14)], type := 23, pos := "parts.go:46", after := #[{ on := 4, ground := Ground.data }, { on := 9, ground := Ground.data }], guard := none }, { dst := some 16, op := Op.call { callee := Callee.value (Operand.func 57), args := #[Operand.tmp 15], argTypes := #[23] }, type := 3, pos := "parts.go:46", after := #[{ on := 10, ground := Ground.data }, { on := 9, ground := Ground.chain }], guard := none }, { dst := some 4, op := Op.assign (Operand.tmp 16), type := 3, pos := "parts.go:46", after := #[{ on := 11, ground := Ground.data }, { on := 11, ground := Ground.chain }, { on := 0, ground := Ground.phase }, { on := 1, ground := Ground.phase }, { on := 2, ground := Ground.phase }, { on := 3, ground := Ground.phase }, { on := 4, ground := Ground.phase }, { on := 5, ground := Ground.phase }, { on := 6, ground := Ground.phase }, { on := 7, ground := Ground.phase }, { on := 8, ground := Ground.phase }, { on := 9, ground := Ground.phase }, { on := 10, ground := Ground.phase }, { on := 11, ground := Ground.phase }], guard := none }] true).wp Try.prog Q a0 W := by
  have hn : ([some 5, some 6, some 7, some 8, some 9, some 10, some 11, some 12, some 13, some 14, some 15, some 16, some 4] : List (Option Nat)).Pairwise (fun x y => x = none ∨ x ≠ y) := of_decide_eq_true (by kernel_rfl)
  have l1 := World.block_lt_of_cell? _ _ c10
  have l2 := World.block_lt_of_cell? _ _ c20
  refine wp_region_inv (by kernel_rfl) (fun listed a w => Slots a0 [some 5, some 6, some 7, some 8, some 9, some 10, some 11, some 12, some 13, some 14, some 15, some 16, some 4] [some (.pointer (some ⟨b1, 0, none⟩)), some (.int .i64 r1), some (.pointer (some ⟨b2, 0, none⟩)), some (.int .i64 r2), some (.int .i64 p), some (.pointer (some ⟨b1, 1, none⟩)), some (.int .i64 x1), some (.pointer (some ⟨b2, 1, none⟩)), some (.int .i64 x2), some (.int .i64 q), some (.slice (some ⟨W.heap.size, 0, none⟩) 2 2), some (.int .i64 (if p = 0 then q else p)), some (.int .i64 (if p = 0 then q else p))] listed a ∧ (listed.getD 10 false = false → w = W.drew) ∧ (listed.getD 10 false = true → w = (W.alloc (.cells #[.int .i64 p, .int .i64 q] 3)).drew)) (by kernel_rfl) ?_ ?_ ?_
  · exact ⟨Slots.start _ _ _ _, fun _ => rfl, fun h => (by rw [start_false] at h; cases h)⟩
  · intro listed a w i' hsl hilt hl hd hcl ⟨hS, hA, hB⟩
    have hb : Below W.heap.size W w := by
      cases h : listed.getD 10 false with
      | false => rw [hA h]; exact (Below.refl _ W).drew
      | true => rw [hB h]; exact ((Below.refl _ W).alloc (Nat.le_refl _) _).drew
    have hsz : Hid (a.tmps.size = 17) := hS.size.trans hsz0
    have hls : i' < listed.size := by rw [hsl]; exact hilt
    have hcase : i' = 0 ∨ i' = 1 ∨ i' = 2 ∨ i' = 3 ∨ i' = 4 ∨ i' = 5 ∨ i' = 6 ∨ i' = 7 ∨ i' = 8 ∨ i' = 9 ∨ i' = 10 ∨ i' = 11 ∨ i' = 12 := by
      have : i' < 13 := hilt
      omega
    rcases hcase with rfl | rfl | rfl | rfl | rfl | rfl | rfl | rfl | rfl | rfl | rfl | rfl | rfl
    ·
      refine wpOp_step rfl ?_
      intro K hK
      have q2 : a.tmps[2]? = some (.pointer (some ⟨b1, 0, none⟩)) := (hS.keep 2 (of_decide_eq_true (by kernel_rfl))).trans h2
      have m0 := (hb.cell (p := ⟨b1, 0, none⟩) l1).trans c10
      have ml := Nat.lt_of_lt_of_le l1 hb.size
      go_simp
      exact hK _ _ ⟨hS.put hn 0 5 _ rfl (by rw [hsz0]; omega) (fun u h => by injection h with h; injection h with h; exact h.symm), fun h => (by rw [getD_set hls, if_neg (by omega)] at h; exact hA h), fun h => (by rw [getD_set hls, if_neg (by omega)] at h; exact hB h)⟩
    ·
      refine wpOp_step rfl ?_
      intro K hK
      have q5 : a.tmps[5]? = some (.pointer (some ⟨b1, 0, none⟩)) := hS.val 0 5 _ (hd 0 (of_decide_eq_true (by kernel_rfl))) rfl rfl
      have m0 := (hb.cell (p := ⟨b1, 0, none⟩) l1).trans c10
      go_simp
      exact hK _ _ ⟨hS.put hn 1 6 _ rfl (by rw [hsz0]; omega) (fun u h => by injection h with h; injection h with h; exact h.symm), fun h => (by rw [getD_set hls, if_neg (by omega)] at h; exact hA h), fun h => (by rw [getD_set hls, if_neg (by omega)] at h; exact hB h)⟩
    ·
      refine wpOp_step rfl ?_
      intro K hK
      have q3 : a.tmps[3]? = some (.pointer (some ⟨b2, 0, none⟩)) := (hS.keep 3 (of_decide_eq_true (by kernel_rfl))).trans h3
      have m0 := (hb.cell (p := ⟨b2, 0, none⟩) l2).trans c20
      have ml := Nat.lt_of_lt_of_le l2 hb.size
      go_simp
      exact hK _ _ ⟨hS.put hn 2 7 _ rfl (by rw [hsz0]; omega) (fun u h => by injection h with h; injection h with h; exact h.symm), fun h => (by rw [getD_set hls, if_neg (by omega)] at h; exact hA h), fun h => (by rw [getD_set hls, if_neg (by omega)] at h; exact hB h)⟩
    ·
      refine wpOp_step rfl ?_
      intro K hK
      have q7 : a.tmps[7]? = some (.pointer (some ⟨b2, 0, none⟩)) := hS.val 2 7 _ (hd 2 (of_decide_eq_true (by kernel_rfl))) rfl rfl
      have m0 := (hb.cell (p := ⟨b2, 0, none⟩) l2).trans c20
      go_simp
      exact hK _ _ ⟨hS.put hn 3 8 _ rfl (by rw [hsz0]; omega) (fun u h => by injection h with h; injection h with h; exact h.symm), fun h => (by rw [getD_set hls, if_neg (by omega)] at h; exact hA h), fun h => (by rw [getD_set hls, if_neg (by omega)] at h; exact hB h)⟩
    ·
      refine wpOp_step rfl ?_
      intro K hK
      have q6 : a.tmps[6]? = some (.int .i64 r1) := hS.val 1 6 _ (hd 1 (of_decide_eq_true (by kernel_rfl))) rfl rfl
      have q8 : a.tmps[8]? = some (.int .i64 r2) := hS.val 3 8 _ (hd 3 (of_decide_eq_true (by kernel_rfl))) rfl rfl
      have hc := h1 w
      go_simp
      go_at_call 58
      refine hc.mono ?_
      rintro e w' ⟨rfl, rfl⟩
      exact hK _ _ ⟨hS.put hn 4 9 _ rfl (by rw [hsz0]; omega) (fun u h => by injection h with h; injection h with h; exact h.symm), fun h => (by rw [getD_set hls, if_neg (by omega)] at h; exact hA h), fun h => (by rw [getD_set hls, if_neg (by omega)] at h; exact hB h)⟩
    ·
      refine wpOp_step rfl ?_
      intro K hK
      have q2 : a.tmps[2]? = some (.pointer (some ⟨b1, 0, none⟩)) := (hS.keep 2 (of_decide_eq_true (by kernel_rfl))).trans h2
      have m0 := (hb.cell (p := ⟨b1, 0, none⟩) l1).trans c10
      have ml := Nat.lt_of_lt_of_le l1 hb.size
      go_simp
      exact hK _ _ ⟨hS.put hn 5 10 _ rfl (by rw [hsz0]; omega) (fun u h => by injection h with h; injection h with h; exact h.symm), fun h => (by rw [getD_set hls, if_neg (by omega)] at h; exact hA h), fun h => (by rw [getD_set hls, if_neg (by omega)] at h; exact hB h)⟩
    ·
      refine wpOp_step rfl ?_
      intro K hK
      have q10 : a.tmps[10]? = some (.pointer (some ⟨b1, 1, none⟩)) := hS.val 5 10 _ (hd 5 (of_decide_eq_true (by kernel_rfl))) rfl rfl
      have m0 := (hb.cell (p := ⟨b1, 1, none⟩) l1).trans c11
      go_simp
      exact hK _ _ ⟨hS.put hn 6 11 _ rfl (by rw [hsz0]; omega) (fun u h => by injection h with h; injection h with h; exact h.symm), fun h => (by rw [getD_set hls, if_neg (by omega)] at h; exact hA h), fun h => (by rw [getD_set hls, if_neg (by omega)] at h; exact hB h)⟩
    ·
      refine wpOp_step rfl ?_
      intro K hK
      have q3 : a.tmps[3]? = some (.pointer (some ⟨b2, 0, none⟩)) := (hS.keep 3 (of_decide_eq_true (by kernel_rfl))).trans h3
      have m0 := (hb.cell (p := ⟨b2, 0, none⟩) l2).trans c20
      have ml := Nat.lt_of_lt_of_le l2 hb.size
      go_simp
      exact hK _ _ ⟨hS.put hn 7 12 _ rfl (by rw [hsz0]; omega) (fun u h => by injection h with h; injection h with h; exact h.symm), fun h => (by rw [getD_set hls, if_neg (by omega)] at h; exact hA h), fun h => (by rw [getD_set hls, if_neg (by omega)] at h; exact hB h)⟩
    ·
      refine wpOp_step rfl ?_
      intro K hK
      have q12 : a.tmps[12]? = some (.pointer (some ⟨b2, 1, none⟩)) := hS.val 7 12 _ (hd 7 (of_decide_eq_true (by kernel_rfl))) rfl rfl
      have m0 := (hb.cell (p := ⟨b2, 1, none⟩) l2).trans c21
      go_simp
      exact hK _ _ ⟨hS.put hn 8 13 _ rfl (by rw [hsz0]; omega) (fun u h => by injection h with h; injection h with h; exact h.symm), fun h => (by rw [getD_set hls, if_neg (by omega)] at h; exact hA h), fun h => (by rw [getD_set hls, if_neg (by omega)] at h; exact hB h)⟩
    ·
      refine wpOp_step rfl ?_
      intro K hK
      have q11 : a.tmps[11]? = some (.int .i64 x1) := hS.val 6 11 _ (hd 6 (of_decide_eq_true (by kernel_rfl))) rfl rfl
      have q13 : a.tmps[13]? = some (.int .i64 x2) := hS.val 8 13 _ (hd 8 (of_decide_eq_true (by kernel_rfl))) rfl rfl
      have hc := hc2 w
      go_simp
      go_at_call 58
      refine hc.mono ?_
      rintro e w' ⟨rfl, rfl⟩
      exact hK _ _ ⟨hS.put hn 9 14 _ rfl (by rw [hsz0]; omega) (fun u h => by injection h with h; injection h with h; exact h.symm), fun h => (by rw [getD_set hls, if_neg (by omega)] at h; exact hA h), fun h => (by rw [getD_set hls, if_neg (by omega)] at h; exact hB h)⟩
    ·
      refine wpOp_step rfl ?_
      intro K hK
      have q9 : a.tmps[9]? = some (.int .i64 p) := hS.val 4 9 _ (hd 4 (of_decide_eq_true (by kernel_rfl))) rfl rfl
      have q14 : a.tmps[14]? = some (.int .i64 q) := hS.val 9 14 _ (hd 9 (of_decide_eq_true (by kernel_rfl))) rfl rfl
      have hw := hA hl
      subst hw
      go_simp
      exact hK _ _ ⟨hS.put hn 10 15 _ rfl (by rw [hsz0]; omega) (fun u h => by injection h with h; injection h with h; exact h.symm), fun h => (by rw [getD_set hls, if_pos rfl] at h; cases h), fun _ => rfl⟩
    ·
      refine wpOp_step rfl ?_
      intro K hK
      have q15 : a.tmps[15]? = some (.slice (some ⟨W.heap.size, 0, none⟩) 2 2) := hS.val 10 15 _ (hd 10 (of_decide_eq_true (by kernel_rfl))) rfl rfl
      have hw := hB (hd 10 (of_decide_eq_true (by kernel_rfl)))
      subst hw
      have m0 : ((W.alloc (.cells #[.int .i64 p, .int .i64 q] 3)).drew).cell? ⟨W.heap.size, 0, none⟩ = some (.int .i64 p) := by simp
      have m1 : ((W.alloc (.cells #[.int .i64 p, .int .i64 q] 3)).drew).cell? ⟨W.heap.size, 1, none⟩ = some (.int .i64 q) := by simp
      have hc := or_any W.heap.size p q _ m0 m1
      go_simp
      go_at_call 57
      refine hc.mono ?_
      rintro e w' ⟨rfl, rfl⟩
      exact hK _ _ ⟨hS.put hn 11 16 _ rfl (by rw [hsz0]; omega) (fun u h => by injection h with h; injection h with h; exact h.symm), fun h => (by rw [getD_set hls, if_neg (by omega)] at h; rw [hd 10 (of_decide_eq_true (by kernel_rfl))] at h; cases h), fun _ => rfl⟩
    ·
      refine wpOp_step rfl ?_
      intro K hK
      have q16 : a.tmps[16]? = some (.int .i64 (if p = 0 then q else p)) := hS.val 11 16 _ (hd 11 (of_decide_eq_true (by kernel_rfl))) rfl rfl
      go_simp
      exact hK _ _ ⟨hS.put hn 12 4 _ rfl (by rw [hsz0]; omega) (fun u h => by injection h with h; injection h with h; exact h.symm), fun h => (by rw [getD_set hls, if_neg (by omega)] at h; exact hA h), fun h => (by rw [getD_set hls, if_neg (by omega)] at h; exact hB h)⟩
  · intro listed a w hall ⟨hS, hA, hB⟩
    have hf := hS.frame [(5, .pointer (some ⟨b1, 0, none⟩)), (6, .int .i64 r1), (7, .pointer (some ⟨b2, 0, none⟩)), (8, .int .i64 r2), (9, .int .i64 p), (10, .pointer (some ⟨b1, 1, none⟩)), (11, .int .i64 x1), (12, .pointer (some ⟨b2, 1, none⟩)), (13, .int .i64 x2), (14, .int .i64 q), (15, .slice (some ⟨W.heap.size, 0, none⟩) 2 2), (16, .int .i64 (if p = 0 then q else p)), (4, .int .i64 (if p = 0 then q else p))] rfl (of_decide_eq_true (by kernel_rfl)) (by
      simp only [List.map_cons, List.map_nil, List.all_cons, List.all_nil, hsz0]; rfl) (by
      intro p hp
      simp only [List.mem_cons, List.not_mem_nil, or_false] at hp
      rcases hp with rfl | rfl | rfl | rfl | rfl | rfl | rfl | rfl | rfl | rfl | rfl | rfl | rfl
      · exact hS.val 0 5 _ (hall 0 (by decide)) rfl rfl
      · exact hS.val 1 6 _ (hall 1 (by decide)) rfl rfl
      · exact hS.val 2 7 _ (hall 2 (by decide)) rfl rfl
      · exact hS.val 3 8 _ (hall 3 (by decide)) rfl rfl
      · exact hS.val 4 9 _ (hall 4 (by decide)) rfl rfl
      · exact hS.val 5 10 _ (hall 5 (by decide)) rfl rfl
      · exact hS.val 6 11 _ (hall 6 (by decide)) rfl rfl
      · exact hS.val 7 12 _ (hall 7 (by decide)) rfl rfl
      · exact hS.val 8 13 _ (hall 8 (by decide)) rfl rfl
      · exact hS.val 9 14 _ (hall 9 (by decide)) rfl rfl
      · exact hS.val 10 15 _ (hall 10 (by decide)) rfl rfl
      · exact hS.val 11 16 _ (hall 11 (by decide)) rfl rfl
      · exact hS.val 12 4 _ (hall 12 (by decide)) rfl rfl)
    rw [hf]
    exact hQ w ⟨_, hB (hall 10 (by decide))⟩
end Go.Proofs.Ytbmmjbklfheghaa.Ven
