/- print.word; print.Seat's statement, a region that draws its order. -/
import Derived.Test.YtpkjhlcolgoknaaDoorQFact
import Derived.Test.YtpkjhlcolgoknaaDoorVInv
namespace Go.Proofs.YtpkjhlcolgoknaaDoor.Prn
set_option linter.unusedVariables false
set_option maxRecDepth 100000
open Go.RowKit Go.Shelf
open Go.Proofs.YtpkjhlcolgoknaaDoor.Ven (Seat Box Slots wp_region_inv getD_set start_false putAll Slots.start mixed)

theorem word_any (k : Int) (w : World) : Calls Tryd.prog 21 #[.int .i64 k] w fun e w' => e = .returned (.string ⟨(wordL k).toArray⟩) ∧ w' = w := by
  unfold wordL
  by_cases h0 : k = 0
  · subst h0
    go_enter Tryd.func21, Tryd.ntmps21
    go_wp2
    go_ret
    exact ⟨rfl, rfl⟩
  rw [if_neg h0]
  by_cases h1 : k = 1
  · subst h1
    go_enter Tryd.func21, Tryd.ntmps21
    go_wp2
    go_ret
    exact ⟨rfl, rfl⟩
  rw [if_neg h1]
  by_cases h2 : k = 2
  · subst h2
    go_enter Tryd.func21, Tryd.ntmps21
    go_wp2
    go_ret
    exact ⟨rfl, rfl⟩
  rw [if_neg h2]
  go_enter Tryd.func21, Tryd.ntmps21
  go_wp2
  go_ret
  exact ⟨rfl, rfl⟩
theorem below_drew_alloc (W : World) (o : Obj) : Below W.heap.size W (W.drew.alloc o) := Below.alloc (Below.drew (Below.refl W.heap.size W)) (show W.heap.size ≤ W.drew.heap.size from Nat.le_refl _) o
set_option maxHeartbeats 1000000 in
theorem seat_region {Q : Exit → Act → World → Prop} (a0 : Act) (W : World) (hsz0 : a0.tmps.size = 14) (g : Nat) (h1 : a0.tmps[1]? = some (.pointer (some ⟨g, 0, none⟩))) (r x y k : Int) (T : List UInt8)
    (hG : Box W g 28 #[.int .i64 r, .int .i64 x, .int .i64 y, .int .i64 k])
    (HF : Calls Tryd.prog 18 #[.string ⟨(wordL k).toArray⟩, .slice (some ⟨W.heap.size, 0, none⟩) 3 3] (W.drew.alloc (.cells #[.int .i64 r, .int .i64 x, .int .i64 y] 3)) fun e w' => e = .returned (.string ⟨T.toArray⟩) ∧ Below (W.drew.alloc (.cells #[.int .i64 r, .int .i64 x, .int .i64 y] 3)).heap.size (W.drew.alloc (.cells #[.int .i64 r, .int .i64 x, .int .i64 y] 3)) w')
    (hQ : ∀ w', Below W.heap.size W w' → Q .normal { tmps := putAll a0.tmps [(3, .pointer (some ⟨g, 3, none⟩)), (4, .int .i64 k), (5, .string ⟨(wordL k).toArray⟩), (6, .pointer (some ⟨g, 0, none⟩)), (7, .int .i64 r), (8, .pointer (some ⟨g, 1, none⟩)), (9, .int .i64 x), (10, .pointer (some ⟨g, 2, none⟩)), (11, .int .i64 y), (12, .slice (some ⟨W.heap.size, 0, none⟩) 3 3), (13, .string ⟨T.toArray⟩), (2, .string ⟨T.toArray⟩)], defers := a0.defers } w') :
    (Code.region 1 #[{ dst := some 3, op := Op.fieldAddr 28 (Operand.tmp 1) 3, type := 0, pos := "print.go:33", after := #[], guard := none }, { dst := some 4, op := Op.load 3 (Operand.tmp 3), type := 3, pos := "print.go:33", after := #[{ on := 0, ground := Ground.data }], guard := none }, { dst := some 5, op := Op.call { callee := Callee.value (Operand.func 21), args := #[Operand.tmp 4], argTypes := #[3] }, type := 9, pos := "print.go:33", after := #[{ on := 1, ground := Ground.data }], guard := none }, { dst := some 6, op := Op.fieldAddr 28 (Operand.tmp 1) 0, type := 0, pos := "print.go:33", after := #[], guard := none }, { dst := some 7, op := Op.load 3 (Operand.tmp 6), type := 3, pos := "print.go:33", after := #[{ on := 3, ground := Ground.data }], guard := none }, { dst := some 8, op := Op.fieldAddr 28 (Operand.tmp 1) 1, type := 0, pos := "print.go:33", after := #[], guard := none }, { dst := some 9, op := Op.load 3 (Operand.tmp 8), type := 3, pos := "print.go:33", after := #[{ on := 5, ground := Ground.data }], guard := none }, { dst := some 10, op := Op.fieldAddr 28 (Operand.tmp 1) 2, type := 0, pos := "print.go:33", after := #[], guard := none }, { dst := some 11, op := Op.load 3 (Operand.tmp 10), type := 3, pos := "print.go:33", after := #[{ on := 7, ground := Ground.data }], guard := none }, { dst := some 12, op := Op.buildSlice 23 3 #[(0, Operand.tmp 7), (1, Operand.tmp 9), (2, Operand.tmp 11)], type := 23, pos := "print.go:33", after := #[{ on := 4, ground := Ground.data }, { on := 6, ground := Ground.data }, { on := 8, ground := Ground.data }], guard := none }, { dst := some 13, op := Op.call { callee := Callee.value (Operand.func 18), args := #[Operand.tmp 5, Operand.tmp 12], argTypes := #[9, 23] }, type := 9, pos := "print.go:33", after := #[{ on := 2, ground := Ground.data }, { on := 9, ground := Ground.data }, { on := 2, ground := Ground.chain }], guard := none }, { dst := some 2, op := Op.assign (Operand.tmp 13), type := 9, pos := "print.go:33", after := #[{ on := 10, ground := Ground.data }, { on := 10, ground := Ground.chain }, { on := 0, ground := Ground.phase }, { on := 1, ground := Ground.phase }, { on := 2, ground := Ground.phase }, { on := 3, ground := Ground.phase }, { on := 4, ground := Ground.phase }, { on := 5, ground := Ground.phase }, { on := 6, ground := Ground.phase }, { on := 7, ground := Ground.phase }, { on := 8, ground := Ground.phase }, { on := 9, ground := Ground.phase }, { on := 10, ground := Ground.phase }], guard := none }] true).wp Tryd.prog Q a0 W := by
  have hn : ([some 3, some 4, some 5, some 6, some 7, some 8, some 9, some 10, some 11, some 12, some 13, some 2] : List (Option Nat)).Pairwise (fun x y => x = none ∨ x ≠ y) := of_decide_eq_true (by kernel_rfl)
  refine wp_region_inv mixed (fun listed a w => Slots a0 [some 3, some 4, some 5, some 6, some 7, some 8, some 9, some 10, some 11, some 12, some 13, some 2] [some (.pointer (some ⟨g, 3, none⟩)), some (.int .i64 k), some (.string ⟨(wordL k).toArray⟩), some (.pointer (some ⟨g, 0, none⟩)), some (.int .i64 r), some (.pointer (some ⟨g, 1, none⟩)), some (.int .i64 x), some (.pointer (some ⟨g, 2, none⟩)), some (.int .i64 y), some (.slice (some ⟨W.heap.size, 0, none⟩) 3 3), some (.string ⟨T.toArray⟩), some (.string ⟨T.toArray⟩)] listed a ∧ (if listed.getD 10 false = true then Below W.heap.size W w else if listed.getD 9 false = true then w = W.drew.alloc (.cells #[.int .i64 r, .int .i64 x, .int .i64 y] 3) else w = W.drew)) (by kernel_rfl) ?_ ?_ ?_
  · exact ⟨Slots.start _ _ _ _, by rw [start_false, if_neg (by decide), start_false, if_neg (by decide)]⟩
  · intro listed a w i' hsl hilt hl hd hcl ⟨hS, hW⟩
    have hsz : Hid (a.tmps.size = 14) := hS.size.trans hsz0
    have hls : i' < listed.size := by rw [hsl]; exact hilt
    have hcase : i' = 0 ∨ i' = 1 ∨ i' = 2 ∨ i' = 3 ∨ i' = 4 ∨ i' = 5 ∨ i' = 6 ∨ i' = 7 ∨ i' = 8 ∨ i' = 9 ∨ i' = 10 ∨ i' = 11 := by
      have : i' < 12 := hilt
      omega
    rcases hcase with rfl | rfl | rfl | rfl | rfl | rfl | rfl | rfl | rfl | rfl | rfl | rfl
    ·
      refine wpOp_step (o := { dst := some 3, op := Op.fieldAddr 28 (Operand.tmp 1) 3, type := 0, pos := "print.go:33", after := #[], guard := none }) rfl ?_
      intro K hK
      have nF : listed.getD 10 false = false := by
        cases h : listed.getD 10 false with
        | false => rfl
        | true =>
          have h2 := hcl 10 2 h (of_decide_eq_true (by kernel_rfl))
          have h1 := hcl 2 1 h2 (of_decide_eq_true (by kernel_rfl))
          rw [hcl 1 0 h1 (of_decide_eq_true (by kernel_rfl))] at hl; cases hl
      rw [nF, if_neg (by decide)] at hW
      have hb : Below W.heap.size W w := by
        split at hW
        · subst hW; exact ((Below.refl _ W).drew).alloc (Nat.le_refl _) _
        · subst hW; exact (Below.refl _ W).drew
      have q1 : a.tmps[1]? = some (.pointer (some ⟨g, 0, none⟩)) := (hS.keep 1 (of_decide_eq_true (by kernel_rfl))).trans h1
      have m0 := (hG.next hb).cell 0 _ rfl
      have ml := (hG.next hb).lt
      go_simp
      exact hK _ _ ⟨(hS.put hn 0 3 _ rfl (by rw [hsz0]; omega) (fun u h => by injection h with h; injection h with h; exact h.symm)), by
        rw [show (listed.setIfInBounds 0 true).getD 10 false = false by rw [getD_set hls, if_neg (by omega)]; exact nF, if_neg (by decide), show (listed.setIfInBounds 0 true).getD 9 false = listed.getD 9 false by rw [getD_set hls, if_neg (by omega)]]
        exact hW⟩
    ·
      refine wpOp_step (o := { dst := some 4, op := Op.load 3 (Operand.tmp 3), type := 3, pos := "print.go:33", after := #[{ on := 0, ground := Ground.data }], guard := none }) rfl ?_
      intro K hK
      have nF : listed.getD 10 false = false := by
        cases h : listed.getD 10 false with
        | false => rfl
        | true =>
          have h2 := hcl 10 2 h (of_decide_eq_true (by kernel_rfl))
          rw [hcl 2 1 h2 (of_decide_eq_true (by kernel_rfl))] at hl; cases hl
      rw [nF, if_neg (by decide)] at hW
      have hb : Below W.heap.size W w := by
        split at hW
        · subst hW; exact ((Below.refl _ W).drew).alloc (Nat.le_refl _) _
        · subst hW; exact (Below.refl _ W).drew
      have q3 : a.tmps[3]? = some (.pointer (some ⟨g, 3, none⟩)) := hS.val 0 3 _ (hd 0 (of_decide_eq_true (by kernel_rfl))) rfl rfl
      have m0 := (hG.next hb).cell 3 _ rfl
      go_simp
      exact hK _ _ ⟨(hS.put hn 1 4 _ rfl (by rw [hsz0]; omega) (fun u h => by injection h with h; injection h with h; exact h.symm)), by
        rw [show (listed.setIfInBounds 1 true).getD 10 false = false by rw [getD_set hls, if_neg (by omega)]; exact nF, if_neg (by decide), show (listed.setIfInBounds 1 true).getD 9 false = listed.getD 9 false by rw [getD_set hls, if_neg (by omega)]]
        exact hW⟩
    ·
      refine wpOp_step (o := { dst := some 5, op := Op.call { callee := Callee.value (Operand.func 21), args := #[Operand.tmp 4], argTypes := #[3] }, type := 9, pos := "print.go:33", after := #[{ on := 1, ground := Ground.data }], guard := none }) rfl ?_
      intro K hK
      have nF : listed.getD 10 false = false := by
        cases h : listed.getD 10 false with
        | false => rfl
        | true =>
          rw [hcl 10 2 h (of_decide_eq_true (by kernel_rfl))] at hl; cases hl
      rw [nF, if_neg (by decide)] at hW
      have hb : Below W.heap.size W w := by
        split at hW
        · subst hW; exact ((Below.refl _ W).drew).alloc (Nat.le_refl _) _
        · subst hW; exact (Below.refl _ W).drew
      have q4 : a.tmps[4]? = some (.int .i64 k) := hS.val 1 4 _ (hd 1 (of_decide_eq_true (by kernel_rfl))) rfl rfl
      go_simp
      refine (word_any k w).mono ?_
      rintro e w' ⟨rfl, rfl⟩
      go_simp
      exact hK _ _ ⟨(hS.put hn 2 5 _ rfl (by rw [hsz0]; omega) (fun u h => by injection h with h; injection h with h; exact h.symm)), by
        rw [show (listed.setIfInBounds 2 true).getD 10 false = false by rw [getD_set hls, if_neg (by omega)]; exact nF, if_neg (by decide), show (listed.setIfInBounds 2 true).getD 9 false = listed.getD 9 false by rw [getD_set hls, if_neg (by omega)]]
        exact hW⟩
    ·
      refine wpOp_step (o := { dst := some 6, op := Op.fieldAddr 28 (Operand.tmp 1) 0, type := 0, pos := "print.go:33", after := #[], guard := none }) rfl ?_
      intro K hK
      have nF : listed.getD 10 false = false := by
        cases h : listed.getD 10 false with
        | false => rfl
        | true =>
          have h9 := hcl 10 9 h (of_decide_eq_true (by kernel_rfl))
          have h4 := hcl 9 4 h9 (of_decide_eq_true (by kernel_rfl))
          rw [hcl 4 3 h4 (of_decide_eq_true (by kernel_rfl))] at hl; cases hl
      rw [nF, if_neg (by decide)] at hW
      have hb : Below W.heap.size W w := by
        split at hW
        · subst hW; exact ((Below.refl _ W).drew).alloc (Nat.le_refl _) _
        · subst hW; exact (Below.refl _ W).drew
      have q1 : a.tmps[1]? = some (.pointer (some ⟨g, 0, none⟩)) := (hS.keep 1 (of_decide_eq_true (by kernel_rfl))).trans h1
      have m0 := (hG.next hb).cell 0 _ rfl
      have ml := (hG.next hb).lt
      go_simp
      exact hK _ _ ⟨(hS.put hn 3 6 _ rfl (by rw [hsz0]; omega) (fun u h => by injection h with h; injection h with h; exact h.symm)), by
        rw [show (listed.setIfInBounds 3 true).getD 10 false = false by rw [getD_set hls, if_neg (by omega)]; exact nF, if_neg (by decide), show (listed.setIfInBounds 3 true).getD 9 false = listed.getD 9 false by rw [getD_set hls, if_neg (by omega)]]
        exact hW⟩
    ·
      refine wpOp_step (o := { dst := some 7, op := Op.load 3 (Operand.tmp 6), type := 3, pos := "print.go:33", after := #[{ on := 3, ground := Ground.data }], guard := none }) rfl ?_
      intro K hK
      have nF : listed.getD 10 false = false := by
        cases h : listed.getD 10 false with
        | false => rfl
        | true =>
          have h9 := hcl 10 9 h (of_decide_eq_true (by kernel_rfl))
          rw [hcl 9 4 h9 (of_decide_eq_true (by kernel_rfl))] at hl; cases hl
      rw [nF, if_neg (by decide)] at hW
      have hb : Below W.heap.size W w := by
        split at hW
        · subst hW; exact ((Below.refl _ W).drew).alloc (Nat.le_refl _) _
        · subst hW; exact (Below.refl _ W).drew
      have q6 : a.tmps[6]? = some (.pointer (some ⟨g, 0, none⟩)) := hS.val 3 6 _ (hd 3 (of_decide_eq_true (by kernel_rfl))) rfl rfl
      have m0 := (hG.next hb).cell 0 _ rfl
      go_simp
      exact hK _ _ ⟨(hS.put hn 4 7 _ rfl (by rw [hsz0]; omega) (fun u h => by injection h with h; injection h with h; exact h.symm)), by
        rw [show (listed.setIfInBounds 4 true).getD 10 false = false by rw [getD_set hls, if_neg (by omega)]; exact nF, if_neg (by decide), show (listed.setIfInBounds 4 true).getD 9 false = listed.getD 9 false by rw [getD_set hls, if_neg (by omega)]]
        exact hW⟩
    ·
      refine wpOp_step (o := { dst := some 8, op := Op.fieldAddr 28 (Operand.tmp 1) 1, type := 0, pos := "print.go:33", after := #[], guard := none }) rfl ?_
      intro K hK
      have nF : listed.getD 10 false = false := by
        cases h : listed.getD 10 false with
        | false => rfl
        | true =>
          have h9 := hcl 10 9 h (of_decide_eq_true (by kernel_rfl))
          have h6 := hcl 9 6 h9 (of_decide_eq_true (by kernel_rfl))
          rw [hcl 6 5 h6 (of_decide_eq_true (by kernel_rfl))] at hl; cases hl
      rw [nF, if_neg (by decide)] at hW
      have hb : Below W.heap.size W w := by
        split at hW
        · subst hW; exact ((Below.refl _ W).drew).alloc (Nat.le_refl _) _
        · subst hW; exact (Below.refl _ W).drew
      have q1 : a.tmps[1]? = some (.pointer (some ⟨g, 0, none⟩)) := (hS.keep 1 (of_decide_eq_true (by kernel_rfl))).trans h1
      have m0 := (hG.next hb).cell 0 _ rfl
      have ml := (hG.next hb).lt
      go_simp
      exact hK _ _ ⟨(hS.put hn 5 8 _ rfl (by rw [hsz0]; omega) (fun u h => by injection h with h; injection h with h; exact h.symm)), by
        rw [show (listed.setIfInBounds 5 true).getD 10 false = false by rw [getD_set hls, if_neg (by omega)]; exact nF, if_neg (by decide), show (listed.setIfInBounds 5 true).getD 9 false = listed.getD 9 false by rw [getD_set hls, if_neg (by omega)]]
        exact hW⟩
    ·
      refine wpOp_step (o := { dst := some 9, op := Op.load 3 (Operand.tmp 8), type := 3, pos := "print.go:33", after := #[{ on := 5, ground := Ground.data }], guard := none }) rfl ?_
      intro K hK
      have nF : listed.getD 10 false = false := by
        cases h : listed.getD 10 false with
        | false => rfl
        | true =>
          have h9 := hcl 10 9 h (of_decide_eq_true (by kernel_rfl))
          rw [hcl 9 6 h9 (of_decide_eq_true (by kernel_rfl))] at hl; cases hl
      rw [nF, if_neg (by decide)] at hW
      have hb : Below W.heap.size W w := by
        split at hW
        · subst hW; exact ((Below.refl _ W).drew).alloc (Nat.le_refl _) _
        · subst hW; exact (Below.refl _ W).drew
      have q8 : a.tmps[8]? = some (.pointer (some ⟨g, 1, none⟩)) := hS.val 5 8 _ (hd 5 (of_decide_eq_true (by kernel_rfl))) rfl rfl
      have m0 := (hG.next hb).cell 1 _ rfl
      go_simp
      exact hK _ _ ⟨(hS.put hn 6 9 _ rfl (by rw [hsz0]; omega) (fun u h => by injection h with h; injection h with h; exact h.symm)), by
        rw [show (listed.setIfInBounds 6 true).getD 10 false = false by rw [getD_set hls, if_neg (by omega)]; exact nF, if_neg (by decide), show (listed.setIfInBounds 6 true).getD 9 false = listed.getD 9 false by rw [getD_set hls, if_neg (by omega)]]
        exact hW⟩
    ·
      refine wpOp_step (o := { dst := some 10, op := Op.fieldAddr 28 (Operand.tmp 1) 2, type := 0, pos := "print.go:33", after := #[], guard := none }) rfl ?_
      intro K hK
      have nF : listed.getD 10 false = false := by
        cases h : listed.getD 10 false with
        | false => rfl
        | true =>
          have h9 := hcl 10 9 h (of_decide_eq_true (by kernel_rfl))
          have h8 := hcl 9 8 h9 (of_decide_eq_true (by kernel_rfl))
          rw [hcl 8 7 h8 (of_decide_eq_true (by kernel_rfl))] at hl; cases hl
      rw [nF, if_neg (by decide)] at hW
      have hb : Below W.heap.size W w := by
        split at hW
        · subst hW; exact ((Below.refl _ W).drew).alloc (Nat.le_refl _) _
        · subst hW; exact (Below.refl _ W).drew
      have q1 : a.tmps[1]? = some (.pointer (some ⟨g, 0, none⟩)) := (hS.keep 1 (of_decide_eq_true (by kernel_rfl))).trans h1
      have m0 := (hG.next hb).cell 0 _ rfl
      have ml := (hG.next hb).lt
      go_simp
      exact hK _ _ ⟨(hS.put hn 7 10 _ rfl (by rw [hsz0]; omega) (fun u h => by injection h with h; injection h with h; exact h.symm)), by
        rw [show (listed.setIfInBounds 7 true).getD 10 false = false by rw [getD_set hls, if_neg (by omega)]; exact nF, if_neg (by decide), show (listed.setIfInBounds 7 true).getD 9 false = listed.getD 9 false by rw [getD_set hls, if_neg (by omega)]]
        exact hW⟩
    ·
      refine wpOp_step (o := { dst := some 11, op := Op.load 3 (Operand.tmp 10), type := 3, pos := "print.go:33", after := #[{ on := 7, ground := Ground.data }], guard := none }) rfl ?_
      intro K hK
      have nF : listed.getD 10 false = false := by
        cases h : listed.getD 10 false with
        | false => rfl
        | true =>
          have h9 := hcl 10 9 h (of_decide_eq_true (by kernel_rfl))
          rw [hcl 9 8 h9 (of_decide_eq_true (by kernel_rfl))] at hl; cases hl
      rw [nF, if_neg (by decide)] at hW
      have hb : Below W.heap.size W w := by
        split at hW
        · subst hW; exact ((Below.refl _ W).drew).alloc (Nat.le_refl _) _
        · subst hW; exact (Below.refl _ W).drew
      have q10 : a.tmps[10]? = some (.pointer (some ⟨g, 2, none⟩)) := hS.val 7 10 _ (hd 7 (of_decide_eq_true (by kernel_rfl))) rfl rfl
      have m0 := (hG.next hb).cell 2 _ rfl
      go_simp
      exact hK _ _ ⟨(hS.put hn 8 11 _ rfl (by rw [hsz0]; omega) (fun u h => by injection h with h; injection h with h; exact h.symm)), by
        rw [show (listed.setIfInBounds 8 true).getD 10 false = false by rw [getD_set hls, if_neg (by omega)]; exact nF, if_neg (by decide), show (listed.setIfInBounds 8 true).getD 9 false = listed.getD 9 false by rw [getD_set hls, if_neg (by omega)]]
        exact hW⟩
    ·
      refine wpOp_step (o := { dst := some 12, op := Op.buildSlice 23 3 #[(0, Operand.tmp 7), (1, Operand.tmp 9), (2, Operand.tmp 11)], type := 23, pos := "print.go:33", after := #[{ on := 4, ground := Ground.data }, { on := 6, ground := Ground.data }, { on := 8, ground := Ground.data }], guard := none }) rfl ?_
      intro K hK
      have nF : listed.getD 10 false = false := by
        cases h : listed.getD 10 false with
        | false => rfl
        | true =>
          rw [hcl 10 9 h (of_decide_eq_true (by kernel_rfl))] at hl; cases hl
      rw [nF, if_neg (by decide)] at hW
      have q7 : a.tmps[7]? = some (.int .i64 r) := hS.val 4 7 _ (hd 4 (of_decide_eq_true (by kernel_rfl))) rfl rfl
      have q9 : a.tmps[9]? = some (.int .i64 x) := hS.val 6 9 _ (hd 6 (of_decide_eq_true (by kernel_rfl))) rfl rfl
      have q11 : a.tmps[11]? = some (.int .i64 y) := hS.val 8 11 _ (hd 8 (of_decide_eq_true (by kernel_rfl))) rfl rfl
      have nB : listed.getD 9 false = false := hl
      rw [nB, if_neg (by decide)] at hW
      subst hW
      have hws : W.drew.heap.size = W.heap.size := rfl
      go_simp
      refine hK _ _ ⟨(hS.put hn 9 12 _ rfl (by rw [hsz0]; omega) (fun u h => by injection h with h; injection h with h; exact h.symm)), ?_⟩
      rw [show (listed.setIfInBounds 9 true).getD 10 false = false by rw [getD_set hls, if_neg (by omega)]; exact nF, if_neg (by decide), show (listed.setIfInBounds 9 true).getD 9 false = true by rw [getD_set hls, if_pos rfl], if_pos rfl]
      rfl
    ·
      refine wpOp_step (o := { dst := some 13, op := Op.call { callee := Callee.value (Operand.func 18), args := #[Operand.tmp 5, Operand.tmp 12], argTypes := #[9, 23] }, type := 9, pos := "print.go:33", after := #[{ on := 2, ground := Ground.data }, { on := 9, ground := Ground.data }, { on := 2, ground := Ground.chain }], guard := none }) rfl ?_
      intro K hK
      have q5 : a.tmps[5]? = some (.string ⟨(wordL k).toArray⟩) := hS.val 2 5 _ (hd 2 (of_decide_eq_true (by kernel_rfl))) rfl rfl
      have q12 : a.tmps[12]? = some (.slice (some ⟨W.heap.size, 0, none⟩) 3 3) := hS.val 9 12 _ (hd 9 (of_decide_eq_true (by kernel_rfl))) rfl rfl
      have nF : listed.getD 10 false = false := hl
      have hB := hd 9 (of_decide_eq_true (by kernel_rfl))
      rw [nF, if_neg (by decide), hB, if_pos rfl] at hW
      subst hW
      go_simp
      refine HF.mono ?_
      rintro e w' ⟨rfl, hbw⟩
      go_simp
      refine hK _ _ ⟨(hS.put hn 10 13 _ rfl (by rw [hsz0]; omega) (fun u h => by injection h with h; injection h with h; exact h.symm)), ?_⟩
      rw [show (listed.setIfInBounds 10 true).getD 10 false = true by rw [getD_set hls, if_pos rfl], if_pos rfl]
      exact (((Below.refl _ W).drew).alloc (Nat.le_refl _) _).trans (hbw.mono (by rw [World.size_alloc]; exact Nat.le_succ W.heap.size))
    ·
      refine wpOp_step (o := { dst := some 2, op := Op.assign (Operand.tmp 13), type := 9, pos := "print.go:33", after := #[{ on := 10, ground := Ground.data }, { on := 10, ground := Ground.chain }, { on := 0, ground := Ground.phase }, { on := 1, ground := Ground.phase }, { on := 2, ground := Ground.phase }, { on := 3, ground := Ground.phase }, { on := 4, ground := Ground.phase }, { on := 5, ground := Ground.phase }, { on := 6, ground := Ground.phase }, { on := 7, ground := Ground.phase }, { on := 8, ground := Ground.phase }, { on := 9, ground := Ground.phase }, { on := 10, ground := Ground.phase }], guard := none }) rfl ?_
      intro K hK
      have q13 : a.tmps[13]? = some (.string ⟨T.toArray⟩) := hS.val 10 13 _ (hd 10 (of_decide_eq_true (by kernel_rfl))) rfl rfl
      have hF := hd 10 (of_decide_eq_true (by kernel_rfl))
      rw [hF, if_pos rfl] at hW
      go_simp
      refine hK _ _ ⟨(hS.put hn 11 2 _ rfl (by rw [hsz0]; omega) (fun u h => by injection h with h; injection h with h; exact h.symm)), ?_⟩
      rw [show (listed.setIfInBounds 11 true).getD 10 false = listed.getD 10 false by rw [getD_set hls, if_neg (by omega)], hF, if_pos rfl]
      exact hW
  · intro listed a w hall ⟨hS, hW⟩
    rw [hall 10 (by show 10 < 12; omega), if_pos rfl] at hW
    have he := hS.frame [(3, .pointer (some ⟨g, 3, none⟩)), (4, .int .i64 k), (5, .string ⟨(wordL k).toArray⟩), (6, .pointer (some ⟨g, 0, none⟩)), (7, .int .i64 r), (8, .pointer (some ⟨g, 1, none⟩)), (9, .int .i64 x), (10, .pointer (some ⟨g, 2, none⟩)), (11, .int .i64 y), (12, .slice (some ⟨W.heap.size, 0, none⟩) 3 3), (13, .string ⟨T.toArray⟩), (2, .string ⟨T.toArray⟩)] rfl (by show List.Pairwise _ [3, 4, 5, 6, 7, 8, 9, 10, 11, 12, 13, 2]; decide) (by simp [hsz0]) (by
        intro p hp
        simp only [List.mem_cons, List.not_mem_nil, or_false] at hp
        rcases hp with rfl | rfl | rfl | rfl | rfl | rfl | rfl | rfl | rfl | rfl | rfl | rfl
        · exact hS.val 0 3 _ (hall 0 (by show 0 < 12; omega)) rfl rfl
        · exact hS.val 1 4 _ (hall 1 (by show 1 < 12; omega)) rfl rfl
        · exact hS.val 2 5 _ (hall 2 (by show 2 < 12; omega)) rfl rfl
        · exact hS.val 3 6 _ (hall 3 (by show 3 < 12; omega)) rfl rfl
        · exact hS.val 4 7 _ (hall 4 (by show 4 < 12; omega)) rfl rfl
        · exact hS.val 5 8 _ (hall 5 (by show 5 < 12; omega)) rfl rfl
        · exact hS.val 6 9 _ (hall 6 (by show 6 < 12; omega)) rfl rfl
        · exact hS.val 7 10 _ (hall 7 (by show 7 < 12; omega)) rfl rfl
        · exact hS.val 8 11 _ (hall 8 (by show 8 < 12; omega)) rfl rfl
        · exact hS.val 9 12 _ (hall 9 (by show 9 < 12; omega)) rfl rfl
        · exact hS.val 10 13 _ (hall 10 (by show 10 < 12; omega)) rfl rfl
        · exact hS.val 11 2 _ (hall 11 (by show 11 < 12; omega)) rfl rfl
      )
    rw [he]
    exact hQ w hW
end Go.Proofs.YtpkjhlcolgoknaaDoor.Prn
