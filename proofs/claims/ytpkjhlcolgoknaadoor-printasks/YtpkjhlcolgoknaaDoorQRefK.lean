/- parterreref2.Print's statement 'x := v.Seats[v.Kills[i]]', a region that draws its order. -/
import Derived.Test.YtpkjhlcolgoknaaDoorQSeatR
namespace Go.Proofs.YtpkjhlcolgoknaaDoor.Prn
set_option linter.unusedVariables false
set_option maxRecDepth 100000
open Go.RowKit Go.Shelf
open Go.Proofs.YtpkjhlcolgoknaaDoor.Ven (Seat Box Slots wp_region_inv getD_set start_false putAll Slots.start mixed SeatAt)

set_option maxHeartbeats 1000000 in
theorem killx_region {Q : Exit → Act → World → Prop} (a0 : Act) (W : World) (hsz0 : a0.tmps.size = 97) (vb sb so n c1 kb ko m c2 i q : Nat) (g1 g2 v4 : Value) (r x y kk : Int) (h1 : a0.tmps[1]? = some (.pointer (some ⟨vb, 0, none⟩))) (h6 : a0.tmps[6]? = some (.int .i64 (i : Int)))
    (hV : Box W vb 26 #[.slice (some ⟨sb, so, none⟩) n c1, g1, g2, .slice (some ⟨kb, ko, none⟩) m c2, v4]) (him : i < m) (hm : m ≤ 4096) (hqn : q < n) (hn4 : n ≤ 4096) (hkl : kb < W.heap.size) (hk : W.cell? ⟨kb, ko + i, none⟩ = some (.int .i64 (q : Int))) (hS4 : SeatAt W sb (so + q * 4) r x y kk)
    (hQ : ∀ w', Below W.heap.size W w' → Box w' W.heap.size 28 #[.int .i64 r, .int .i64 x, .int .i64 y, .int .i64 kk] → Q .normal { tmps := putAll a0.tmps [(46, .pointer (some ⟨vb, 0, none⟩)), (47, .slice (some ⟨sb, so, none⟩) n c1), (48, .pointer (some ⟨vb, 3, none⟩)), (49, .slice (some ⟨kb, ko, none⟩) m c2), (50, .int .i64 (i : Int)), (51, .pointer (some ⟨kb, ko + i, none⟩)), (52, .int .i64 (q : Int)), (53, .pointer (some ⟨sb, so + q * 4, none⟩)), (54, .agg #[.int .i64 r, .int .i64 x, .int .i64 y, .int .i64 kk]), (7, .pointer (some ⟨W.heap.size, 0, none⟩))], defers := a0.defers } w') :
    (Code.region 11 #[{ dst := some 46, op := Op.fieldAddr 26 (Operand.tmp 1) 0, type := 0, pos := "ref.go:437", after := #[], guard := none }, { dst := some 47, op := Op.load 22 (Operand.tmp 46), type := 22, pos := "ref.go:437", after := #[{ on := 0, ground := Ground.data }], guard := none }, { dst := some 48, op := Op.fieldAddr 26 (Operand.tmp 1) 3, type := 0, pos := "ref.go:437", after := #[], guard := none }, { dst := some 49, op := Op.load 23 (Operand.tmp 48), type := 23, pos := "ref.go:437", after := #[{ on := 2, ground := Ground.data }], guard := none }, { dst := some 50, op := Op.move (Operand.tmp 6), type := 3, pos := "ref.go:437", after := #[], guard := none }, { dst := some 51, op := Op.indexAddr 23 (Operand.tmp 49) (Operand.tmp 50), type := 0, pos := "ref.go:437", after := #[{ on := 3, ground := Ground.data }, { on := 4, ground := Ground.data }], guard := none }, { dst := some 52, op := Op.load 3 (Operand.tmp 51), type := 3, pos := "ref.go:437", after := #[{ on := 5, ground := Ground.data }], guard := none }, { dst := some 53, op := Op.indexAddr 22 (Operand.tmp 47) (Operand.tmp 52), type := 0, pos := "ref.go:437", after := #[{ on := 1, ground := Ground.data }, { on := 6, ground := Ground.data }], guard := none }, { dst := some 54, op := Op.load 28 (Operand.tmp 53), type := 28, pos := "ref.go:437", after := #[{ on := 7, ground := Ground.data }], guard := none }, { dst := some 7, op := Op.alloc 28, type := 0, pos := "ref.go:437", after := #[], guard := none }, { dst := none, op := Op.store 28 (Operand.tmp 7) (Operand.tmp 54), type := 0, pos := "ref.go:437", after := #[{ on := 9, ground := Ground.data }, { on := 8, ground := Ground.data }, { on := 0, ground := Ground.phase }, { on := 1, ground := Ground.phase }, { on := 2, ground := Ground.phase }, { on := 3, ground := Ground.phase }, { on := 4, ground := Ground.phase }, { on := 5, ground := Ground.phase }, { on := 6, ground := Ground.phase }, { on := 7, ground := Ground.phase }, { on := 8, ground := Ground.phase }, { on := 9, ground := Ground.phase }], guard := none }] true).wp Tryd.prog Q a0 W := by
  have hn : ([some 46, some 47, some 48, some 49, some 50, some 51, some 52, some 53, some 54, some 7, none] : List (Option Nat)).Pairwise (fun x y => x = none ∨ x ≠ y) := of_decide_eq_true (by kernel_rfl)
  refine wp_region_inv mixed (fun listed a w => Slots a0 [some 46, some 47, some 48, some 49, some 50, some 51, some 52, some 53, some 54, some 7, none] [some (.pointer (some ⟨vb, 0, none⟩)), some (.slice (some ⟨sb, so, none⟩) n c1), some (.pointer (some ⟨vb, 3, none⟩)), some (.slice (some ⟨kb, ko, none⟩) m c2), some (.int .i64 (i : Int)), some (.pointer (some ⟨kb, ko + i, none⟩)), some (.int .i64 (q : Int)), some (.pointer (some ⟨sb, so + q * 4, none⟩)), some (.agg #[.int .i64 r, .int .i64 x, .int .i64 y, .int .i64 kk]), some (.pointer (some ⟨W.heap.size, 0, none⟩)), none] listed a ∧ (if listed.getD 10 false = true then Below W.heap.size W w ∧ Box w W.heap.size 28 #[.int .i64 r, .int .i64 x, .int .i64 y, .int .i64 kk] else if listed.getD 9 false = true then w = W.drew.alloc (.cells #[.int .i64 0, .int .i64 0, .int .i64 0, .int .i64 0] 28) else w = W.drew)) (by kernel_rfl) ?_ ?_ ?_
  · exact ⟨Slots.start _ _ _ _, by rw [start_false, if_neg (by decide), start_false, if_neg (by decide)]⟩
  · intro listed a w i' hsl hilt hl hd hcl ⟨hS, hW⟩
    have hsz : Hid (a.tmps.size = 97) := hS.size.trans hsz0
    have hls : i' < listed.size := by rw [hsl]; exact hilt
    have hcase : i' = 0 ∨ i' = 1 ∨ i' = 2 ∨ i' = 3 ∨ i' = 4 ∨ i' = 5 ∨ i' = 6 ∨ i' = 7 ∨ i' = 8 ∨ i' = 9 ∨ i' = 10 := by
      have : i' < 11 := hilt
      omega
    rcases hcase with rfl | rfl | rfl | rfl | rfl | rfl | rfl | rfl | rfl | rfl | rfl
    ·
      refine wpOp_step (o := { dst := some 46, op := Op.fieldAddr 26 (Operand.tmp 1) 0, type := 0, pos := "ref.go:437", after := #[], guard := none }) rfl ?_
      intro K hK
      have nS : listed.getD 10 false = false := by
        cases h : listed.getD 10 false with
        | false => rfl
        | true => rw [hcl 10 0 h (of_decide_eq_true (by kernel_rfl))] at hl; cases hl
      rw [nS, if_neg (by decide)] at hW
      have hb : Below W.heap.size W w := by
        split at hW
        · subst hW; exact below_drew_alloc _ _
        · subst hW; exact (Below.refl _ W).drew
      have q1 : a.tmps[1]? = some (.pointer (some ⟨vb, 0, none⟩)) := (hS.keep 1 (of_decide_eq_true (by kernel_rfl))).trans h1
      have m0 := (hV.next hb).cell 0 _ rfl
      have ml := (hV.next hb).lt
      go_simp
      exact hK _ _ ⟨(hS.put hn 0 46 _ rfl (by rw [hsz0]; omega) (fun u h => by injection h with h; injection h with h; exact h.symm)), by
        rw [show (listed.setIfInBounds 0 true).getD 10 false = false by rw [getD_set hls, if_neg (by omega)]; exact nS, if_neg (by decide), show (listed.setIfInBounds 0 true).getD 9 false = listed.getD 9 false by rw [getD_set hls, if_neg (by omega)]]
        exact hW⟩
    ·
      refine wpOp_step (o := { dst := some 47, op := Op.load 22 (Operand.tmp 46), type := 22, pos := "ref.go:437", after := #[{ on := 0, ground := Ground.data }], guard := none }) rfl ?_
      intro K hK
      have nS : listed.getD 10 false = false := by
        cases h : listed.getD 10 false with
        | false => rfl
        | true => rw [hcl 10 1 h (of_decide_eq_true (by kernel_rfl))] at hl; cases hl
      rw [nS, if_neg (by decide)] at hW
      have hb : Below W.heap.size W w := by
        split at hW
        · subst hW; exact below_drew_alloc _ _
        · subst hW; exact (Below.refl _ W).drew
      have q46 : a.tmps[46]? = some (.pointer (some ⟨vb, 0, none⟩)) := hS.val 0 46 _ (hd 0 (of_decide_eq_true (by kernel_rfl))) rfl rfl
      have m0 := (hV.next hb).cell 0 _ rfl
      go_simp
      exact hK _ _ ⟨(hS.put hn 1 47 _ rfl (by rw [hsz0]; omega) (fun u h => by injection h with h; injection h with h; exact h.symm)), by
        rw [show (listed.setIfInBounds 1 true).getD 10 false = false by rw [getD_set hls, if_neg (by omega)]; exact nS, if_neg (by decide), show (listed.setIfInBounds 1 true).getD 9 false = listed.getD 9 false by rw [getD_set hls, if_neg (by omega)]]
        exact hW⟩
    ·
      refine wpOp_step (o := { dst := some 48, op := Op.fieldAddr 26 (Operand.tmp 1) 3, type := 0, pos := "ref.go:437", after := #[], guard := none }) rfl ?_
      intro K hK
      have nS : listed.getD 10 false = false := by
        cases h : listed.getD 10 false with
        | false => rfl
        | true => rw [hcl 10 2 h (of_decide_eq_true (by kernel_rfl))] at hl; cases hl
      rw [nS, if_neg (by decide)] at hW
      have hb : Below W.heap.size W w := by
        split at hW
        · subst hW; exact below_drew_alloc _ _
        · subst hW; exact (Below.refl _ W).drew
      have q1 : a.tmps[1]? = some (.pointer (some ⟨vb, 0, none⟩)) := (hS.keep 1 (of_decide_eq_true (by kernel_rfl))).trans h1
      have m0 := (hV.next hb).cell 0 _ rfl
      have ml := (hV.next hb).lt
      go_simp
      exact hK _ _ ⟨(hS.put hn 2 48 _ rfl (by rw [hsz0]; omega) (fun u h => by injection h with h; injection h with h; exact h.symm)), by
        rw [show (listed.setIfInBounds 2 true).getD 10 false = false by rw [getD_set hls, if_neg (by omega)]; exact nS, if_neg (by decide), show (listed.setIfInBounds 2 true).getD 9 false = listed.getD 9 false by rw [getD_set hls, if_neg (by omega)]]
        exact hW⟩
    ·
      refine wpOp_step (o := { dst := some 49, op := Op.load 23 (Operand.tmp 48), type := 23, pos := "ref.go:437", after := #[{ on := 2, ground := Ground.data }], guard := none }) rfl ?_
      intro K hK
      have nS : listed.getD 10 false = false := by
        cases h : listed.getD 10 false with
        | false => rfl
        | true => rw [hcl 10 3 h (of_decide_eq_true (by kernel_rfl))] at hl; cases hl
      rw [nS, if_neg (by decide)] at hW
      have hb : Below W.heap.size W w := by
        split at hW
        · subst hW; exact below_drew_alloc _ _
        · subst hW; exact (Below.refl _ W).drew
      have q48 : a.tmps[48]? = some (.pointer (some ⟨vb, 3, none⟩)) := hS.val 2 48 _ (hd 2 (of_decide_eq_true (by kernel_rfl))) rfl rfl
      have m0 := (hV.next hb).cell 3 _ rfl
      go_simp
      exact hK _ _ ⟨(hS.put hn 3 49 _ rfl (by rw [hsz0]; omega) (fun u h => by injection h with h; injection h with h; exact h.symm)), by
        rw [show (listed.setIfInBounds 3 true).getD 10 false = false by rw [getD_set hls, if_neg (by omega)]; exact nS, if_neg (by decide), show (listed.setIfInBounds 3 true).getD 9 false = listed.getD 9 false by rw [getD_set hls, if_neg (by omega)]]
        exact hW⟩
    ·
      refine wpOp_step (o := { dst := some 50, op := Op.move (Operand.tmp 6), type := 3, pos := "ref.go:437", after := #[], guard := none }) rfl ?_
      intro K hK
      have nS : listed.getD 10 false = false := by
        cases h : listed.getD 10 false with
        | false => rfl
        | true => rw [hcl 10 4 h (of_decide_eq_true (by kernel_rfl))] at hl; cases hl
      rw [nS, if_neg (by decide)] at hW
      have hb : Below W.heap.size W w := by
        split at hW
        · subst hW; exact below_drew_alloc _ _
        · subst hW; exact (Below.refl _ W).drew
      have q6 : a.tmps[6]? = some (.int .i64 (i : Int)) := (hS.keep 6 (of_decide_eq_true (by kernel_rfl))).trans h6
      go_simp
      exact hK _ _ ⟨(hS.put hn 4 50 _ rfl (by rw [hsz0]; omega) (fun u h => by injection h with h; injection h with h; exact h.symm)), by
        rw [show (listed.setIfInBounds 4 true).getD 10 false = false by rw [getD_set hls, if_neg (by omega)]; exact nS, if_neg (by decide), show (listed.setIfInBounds 4 true).getD 9 false = listed.getD 9 false by rw [getD_set hls, if_neg (by omega)]]
        exact hW⟩
    ·
      refine wpOp_step (o := { dst := some 51, op := Op.indexAddr 23 (Operand.tmp 49) (Operand.tmp 50), type := 0, pos := "ref.go:437", after := #[{ on := 3, ground := Ground.data }, { on := 4, ground := Ground.data }], guard := none }) rfl ?_
      intro K hK
      have nS : listed.getD 10 false = false := by
        cases h : listed.getD 10 false with
        | false => rfl
        | true => rw [hcl 10 5 h (of_decide_eq_true (by kernel_rfl))] at hl; cases hl
      rw [nS, if_neg (by decide)] at hW
      have hb : Below W.heap.size W w := by
        split at hW
        · subst hW; exact below_drew_alloc _ _
        · subst hW; exact (Below.refl _ W).drew
      have q49 : a.tmps[49]? = some (.slice (some ⟨kb, ko, none⟩) m c2) := hS.val 3 49 _ (hd 3 (of_decide_eq_true (by kernel_rfl))) rfl rfl
      have q50 : a.tmps[50]? = some (.int .i64 (i : Int)) := hS.val 4 50 _ (hd 4 (of_decide_eq_true (by kernel_rfl))) rfl rfl
      have hiz : (i : Int) < (m : Int) := by omega
      go_simp
      exact hK _ _ ⟨(hS.put hn 5 51 _ rfl (by rw [hsz0]; omega) (fun u h => by injection h with h; injection h with h; exact h.symm)), by
        rw [show (listed.setIfInBounds 5 true).getD 10 false = false by rw [getD_set hls, if_neg (by omega)]; exact nS, if_neg (by decide), show (listed.setIfInBounds 5 true).getD 9 false = listed.getD 9 false by rw [getD_set hls, if_neg (by omega)]]
        exact hW⟩
    ·
      refine wpOp_step (o := { dst := some 52, op := Op.load 3 (Operand.tmp 51), type := 3, pos := "ref.go:437", after := #[{ on := 5, ground := Ground.data }], guard := none }) rfl ?_
      intro K hK
      have nS : listed.getD 10 false = false := by
        cases h : listed.getD 10 false with
        | false => rfl
        | true => rw [hcl 10 6 h (of_decide_eq_true (by kernel_rfl))] at hl; cases hl
      rw [nS, if_neg (by decide)] at hW
      have hb : Below W.heap.size W w := by
        split at hW
        · subst hW; exact below_drew_alloc _ _
        · subst hW; exact (Below.refl _ W).drew
      have q51 : a.tmps[51]? = some (.pointer (some ⟨kb, ko + i, none⟩)) := hS.val 5 51 _ (hd 5 (of_decide_eq_true (by kernel_rfl))) rfl rfl
      have m0 := (hb.cell (p := ⟨kb, ko + i, none⟩) hkl).trans hk
      go_simp
      exact hK _ _ ⟨(hS.put hn 6 52 _ rfl (by rw [hsz0]; omega) (fun u h => by injection h with h; injection h with h; exact h.symm)), by
        rw [show (listed.setIfInBounds 6 true).getD 10 false = false by rw [getD_set hls, if_neg (by omega)]; exact nS, if_neg (by decide), show (listed.setIfInBounds 6 true).getD 9 false = listed.getD 9 false by rw [getD_set hls, if_neg (by omega)]]
        exact hW⟩
    ·
      refine wpOp_step (o := { dst := some 53, op := Op.indexAddr 22 (Operand.tmp 47) (Operand.tmp 52), type := 0, pos := "ref.go:437", after := #[{ on := 1, ground := Ground.data }, { on := 6, ground := Ground.data }], guard := none }) rfl ?_
      intro K hK
      have nS : listed.getD 10 false = false := by
        cases h : listed.getD 10 false with
        | false => rfl
        | true => rw [hcl 10 7 h (of_decide_eq_true (by kernel_rfl))] at hl; cases hl
      rw [nS, if_neg (by decide)] at hW
      have hb : Below W.heap.size W w := by
        split at hW
        · subst hW; exact below_drew_alloc _ _
        · subst hW; exact (Below.refl _ W).drew
      have q47 : a.tmps[47]? = some (.slice (some ⟨sb, so, none⟩) n c1) := hS.val 1 47 _ (hd 1 (of_decide_eq_true (by kernel_rfl))) rfl rfl
      have q52 : a.tmps[52]? = some (.int .i64 (q : Int)) := hS.val 6 52 _ (hd 6 (of_decide_eq_true (by kernel_rfl))) rfl rfl
      have hqz : (q : Int) < (n : Int) := by omega
      go_simp
      exact hK _ _ ⟨(hS.put hn 7 53 _ rfl (by rw [hsz0]; omega) (fun u h => by injection h with h; injection h with h; exact h.symm)), by
        rw [show (listed.setIfInBounds 7 true).getD 10 false = false by rw [getD_set hls, if_neg (by omega)]; exact nS, if_neg (by decide), show (listed.setIfInBounds 7 true).getD 9 false = listed.getD 9 false by rw [getD_set hls, if_neg (by omega)]]
        exact hW⟩
    ·
      refine wpOp_step (o := { dst := some 54, op := Op.load 28 (Operand.tmp 53), type := 28, pos := "ref.go:437", after := #[{ on := 7, ground := Ground.data }], guard := none }) rfl ?_
      intro K hK
      have nS : listed.getD 10 false = false := by
        cases h : listed.getD 10 false with
        | false => rfl
        | true => rw [hcl 10 8 h (of_decide_eq_true (by kernel_rfl))] at hl; cases hl
      rw [nS, if_neg (by decide)] at hW
      have hb : Below W.heap.size W w := by
        split at hW
        · subst hW; exact below_drew_alloc _ _
        · subst hW; exact (Below.refl _ W).drew
      have q53 : a.tmps[53]? = some (.pointer (some ⟨sb, so + q * 4, none⟩)) := hS.val 7 53 _ (hd 7 (of_decide_eq_true (by kernel_rfl))) rfl rfl
      obtain ⟨_, m0, m1, m2, m3⟩ := hS4.next hb
      go_simp
      exact hK _ _ ⟨(hS.put hn 8 54 _ rfl (by rw [hsz0]; omega) (fun u h => by injection h with h; injection h with h; exact h.symm)), by
        rw [show (listed.setIfInBounds 8 true).getD 10 false = false by rw [getD_set hls, if_neg (by omega)]; exact nS, if_neg (by decide), show (listed.setIfInBounds 8 true).getD 9 false = listed.getD 9 false by rw [getD_set hls, if_neg (by omega)]]
        exact hW⟩
    ·
      refine wpOp_step (o := { dst := some 7, op := Op.alloc 28, type := 0, pos := "ref.go:437", after := #[], guard := none }) rfl ?_
      intro K hK
      have nS : listed.getD 10 false = false := by
        cases h : listed.getD 10 false with
        | false => rfl
        | true => rw [hcl 10 9 h (of_decide_eq_true (by kernel_rfl))] at hl; cases hl
      rw [nS, if_neg (by decide)] at hW
      have nB : listed.getD 9 false = false := hl
      rw [nB, if_neg (by decide)] at hW
      subst hW
      have hws : W.drew.heap.size = W.heap.size := rfl
      go_simp
      refine hK _ _ ⟨(hS.put hn 9 7 _ rfl (by rw [hsz0]; omega) (fun u h => by injection h with h; injection h with h; exact h.symm)), ?_⟩
      rw [show (listed.setIfInBounds 9 true).getD 10 false = false by rw [getD_set hls, if_neg (by omega)]; exact nS, if_neg (by decide), show (listed.setIfInBounds 9 true).getD 9 false = true by rw [getD_set hls, if_pos rfl], if_pos rfl]
      rfl
    ·
      refine wpOp_step (o := { dst := none, op := Op.store 28 (Operand.tmp 7) (Operand.tmp 54), type := 0, pos := "ref.go:437", after := #[{ on := 9, ground := Ground.data }, { on := 8, ground := Ground.data }, { on := 0, ground := Ground.phase }, { on := 1, ground := Ground.phase }, { on := 2, ground := Ground.phase }, { on := 3, ground := Ground.phase }, { on := 4, ground := Ground.phase }, { on := 5, ground := Ground.phase }, { on := 6, ground := Ground.phase }, { on := 7, ground := Ground.phase }, { on := 8, ground := Ground.phase }, { on := 9, ground := Ground.phase }], guard := none }) rfl ?_
      intro K hK
      have q7 : a.tmps[7]? = some (.pointer (some ⟨W.heap.size, 0, none⟩)) := hS.val 9 7 _ (hd 9 (of_decide_eq_true (by kernel_rfl))) rfl rfl
      have q54 : a.tmps[54]? = some (.agg #[.int .i64 r, .int .i64 x, .int .i64 y, .int .i64 kk]) := hS.val 8 54 _ (hd 8 (of_decide_eq_true (by kernel_rfl))) rfl rfl
      have nS : listed.getD 10 false = false := hl
      have hA := hd 9 (of_decide_eq_true (by kernel_rfl))
      rw [nS, if_neg (by decide), hA, if_pos rfl] at hW
      have hb : Below W.heap.size W w := by subst hW; exact below_drew_alloc _ _
      have hb4 : Box w W.heap.size 28 #[.int .i64 0, .int .i64 0, .int .i64 0, .int .i64 0] := by subst hW; exact Box.fresh W.drew _ _
      clear hW
      have m0 := hb4.cell 0 _ rfl
      have f0 := hb4.frozen 0
      have m1 := hb4.cell 1 _ rfl
      have f1 := hb4.frozen 1
      have m2 := hb4.cell 2 _ rfl
      have f2 := hb4.frozen 2
      have m3 := hb4.cell 3 _ rfl
      have f3 := hb4.frozen 3
      have lt := hb4.lt
      go_simp
      refine hK _ _ ⟨hS.skip 10 rfl, ?_⟩
      rw [show (listed.setIfInBounds 10 true).getD 10 false = true by rw [getD_set hls, if_pos rfl], if_pos rfl]
      exact ⟨(Below.setCell (Below.setCell (Below.setCell (Below.setCell hb (by exact Nat.le_refl _) _) (by exact Nat.le_refl _) _) (by exact Nat.le_refl _) _) (by exact Nat.le_refl _) _), ((((hb4.set 0 (.int .i64 r)).set 1 (.int .i64 x)).set 2 (.int .i64 y)).set 3 (.int .i64 kk))⟩
  · intro listed a w hall ⟨hS, hW⟩
    rw [hall 10 (by show 10 < 11; omega), if_pos rfl] at hW
    have he := hS.frame [(46, .pointer (some ⟨vb, 0, none⟩)), (47, .slice (some ⟨sb, so, none⟩) n c1), (48, .pointer (some ⟨vb, 3, none⟩)), (49, .slice (some ⟨kb, ko, none⟩) m c2), (50, .int .i64 (i : Int)), (51, .pointer (some ⟨kb, ko + i, none⟩)), (52, .int .i64 (q : Int)), (53, .pointer (some ⟨sb, so + q * 4, none⟩)), (54, .agg #[.int .i64 r, .int .i64 x, .int .i64 y, .int .i64 kk]), (7, .pointer (some ⟨W.heap.size, 0, none⟩))] rfl (by show List.Pairwise _ [46, 47, 48, 49, 50, 51, 52, 53, 54, 7]; decide) (by simp [hsz0]) (by
        intro p hp
        simp only [List.mem_cons, List.not_mem_nil, or_false] at hp
        rcases hp with rfl | rfl | rfl | rfl | rfl | rfl | rfl | rfl | rfl | rfl
        · exact hS.val 0 46 _ (hall 0 (by show 0 < 11; omega)) rfl rfl
        · exact hS.val 1 47 _ (hall 1 (by show 1 < 11; omega)) rfl rfl
        · exact hS.val 2 48 _ (hall 2 (by show 2 < 11; omega)) rfl rfl
        · exact hS.val 3 49 _ (hall 3 (by show 3 < 11; omega)) rfl rfl
        · exact hS.val 4 50 _ (hall 4 (by show 4 < 11; omega)) rfl rfl
        · exact hS.val 5 51 _ (hall 5 (by show 5 < 11; omega)) rfl rfl
        · exact hS.val 6 52 _ (hall 6 (by show 6 < 11; omega)) rfl rfl
        · exact hS.val 7 53 _ (hall 7 (by show 7 < 11; omega)) rfl rfl
        · exact hS.val 8 54 _ (hall 8 (by show 8 < 11; omega)) rfl rfl
        · exact hS.val 9 7 _ (hall 9 (by show 9 < 11; omega)) rfl rfl
      )
    rw [he]
    exact hQ w hW.1 hW.2
end Go.Proofs.YtpkjhlcolgoknaaDoor.Prn
