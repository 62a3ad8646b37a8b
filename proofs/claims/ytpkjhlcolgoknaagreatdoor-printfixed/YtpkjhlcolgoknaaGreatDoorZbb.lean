/- print.word; print.Seat's statement, a region that draws its order; print.Seat by its contract: a seat's line; (*strings.Builder).WriteString, WriteByte, String by contracts over lists of bytes. -/
import Derived.Test.YtpkjhlcolgoknaaGreatDoorZba
import Derived.Test.YtpkjhlcolgoknaaGreatDoorVInv
import Derived.Test.YtpkjhlcolgoknaaGreatDoorFBuild
import Derived.Lib.FrozenHead2
import Derived.Lib.OwnKind
namespace Go.Proofs.YtpkjhlcolgoknaaGreatDoor.Prn
set_option linter.unusedVariables false
set_option maxRecDepth 100000
open Go.RowKit Go.Shelf
open Go.Proofs.YtpkjhlcolgoknaaGreatDoor.Ven (Seat Box Slots wp_region_inv getD_set start_false putAll Slots.start mixed)

theorem word_any (k : Int) (w : World) : Calls Tryz.prog 65 #[.int .i64 k] w fun e w' => e = .returned (.string ⟨(wordL k).toArray⟩) ∧ w' = w := by
  unfold wordL
  by_cases h0 : k = 0
  · subst h0
    go_enter Tryz.func65, Tryz.ntmps65
    go_wp2
    go_ret
    exact ⟨rfl, rfl⟩
  rw [if_neg h0]
  by_cases h1 : k = 1
  · subst h1
    go_enter Tryz.func65, Tryz.ntmps65
    go_wp2
    go_ret
    exact ⟨rfl, rfl⟩
  rw [if_neg h1]
  by_cases h2 : k = 2
  · subst h2
    go_enter Tryz.func65, Tryz.ntmps65
    go_wp2
    go_ret
    exact ⟨rfl, rfl⟩
  rw [if_neg h2]
  go_enter Tryz.func65, Tryz.ntmps65
  go_wp2
  go_ret
  exact ⟨rfl, rfl⟩
theorem below_drew_alloc (W : World) (o : Obj) : Below W.heap.size W (W.drew.alloc o) := Below.alloc (Below.drew (Below.refl W.heap.size W)) (show W.heap.size ≤ W.drew.heap.size from Nat.le_refl _) o
set_option maxHeartbeats 1000000 in
theorem seat_region {Q : Exit → Act → World → Prop} (a0 : Act) (W : World) (hsz0 : a0.tmps.size = 14) (g : Nat) (h1 : a0.tmps[1]? = some (.pointer (some ⟨g, 0, none⟩))) (r x y k : Int) (T : List UInt8)
    (hG : Box W g 57 #[.int .i64 r, .int .i64 x, .int .i64 y, .int .i64 k])
    (HF : Calls Tryz.prog 43 #[.string ⟨(wordL k).toArray⟩, .slice (some ⟨W.heap.size, 0, none⟩) 3 3] (W.drew.alloc (.cells #[.int .i64 r, .int .i64 x, .int .i64 y] 3)) fun e w' => e = .returned (.string ⟨T.toArray⟩) ∧ Below (W.drew.alloc (.cells #[.int .i64 r, .int .i64 x, .int .i64 y] 3)).heap.size (W.drew.alloc (.cells #[.int .i64 r, .int .i64 x, .int .i64 y] 3)) w')
    (hQ : ∀ w', Below W.heap.size W w' → Q .normal { tmps := putAll a0.tmps [(3, .pointer (some ⟨g, 3, none⟩)), (4, .int .i64 k), (5, .string ⟨(wordL k).toArray⟩), (6, .pointer (some ⟨g, 0, none⟩)), (7, .int .i64 r), (8, .pointer (some ⟨g, 1, none⟩)), (9, .int .i64 x), (10, .pointer (some ⟨g, 2, none⟩)), (11, .int .i64 y), (12, .slice (some ⟨W.heap.size, 0, none⟩) 3 3), (13, .string ⟨T.toArray⟩), (2, .string ⟨T.toArray⟩)], defers := a0.defers } w') :
    (Code.region 1 #[{ dst := some 3, op := Op.fieldAddr 57 (Operand.tmp 1) 3, type := 0, pos := "print.go:33", after := #[], guard := none }, { dst := some 4, op := Op.load 3 (Operand.tmp 3), type := 3, pos := "print.go:33", after := #[{ on := 0, ground := Ground.data }], guard := none }, { dst := some 5, op := Op.call { callee := Callee.value (Operand.func 65), args := #[Operand.tmp 4], argTypes := #[3] }, type := 9, pos := "print.go:33", after := #[{ on := 1, ground := Ground.data }], guard := none }, { dst := some 6, op := Op.fieldAddr 57 (Operand.tmp 1) 0, type := 0, pos := "print.go:33", after := #[], guard := none }, { dst := some 7, op := Op.load 3 (Operand.tmp 6), type := 3, pos := "print.go:33", after := #[{ on := 3, ground := Ground.data }], guard := none }, { dst := some 8, op := Op.fieldAddr 57 (Operand.tmp 1) 1, type := 0, pos := "print.go:33", after := #[], guard := none }, { dst := some 9, op := Op.load 3 (Operand.tmp 8), type := 3, pos := "print.go:33", after := #[{ on := 5, ground := Ground.data }], guard := none }, { dst := some 10, op := Op.fieldAddr 57 (Operand.tmp 1) 2, type := 0, pos := "print.go:33", after := #[], guard := none }, { dst := some 11, op := Op.load 3 (Operand.tmp 10), type := 3, pos := "print.go:33", after := #[{ on := 7, ground := Ground.data }], guard := none }, { dst := some 12, op := Op.buildSlice 22 3 #[(0, Operand.tmp 7), (1, Operand.tmp 9), (2, Operand.tmp 11)], type := 22, pos := "print.go:33", after := #[{ on := 4, ground := Ground.data }, { on := 6, ground := Ground.data }, { on := 8, ground := Ground.data }], guard := none }, { dst := some 13, op := Op.call { callee := Callee.value (Operand.func 43), args := #[Operand.tmp 5, Operand.tmp 12], argTypes := #[9, 22] }, type := 9, pos := "print.go:33", after := #[{ on := 2, ground := Ground.data }, { on := 9, ground := Ground.data }, { on := 2, ground := Ground.chain }], guard := none }, { dst := some 2, op := Op.assign (Operand.tmp 13), type := 9, pos := "print.go:33", after := #[{ on := 10, ground := Ground.data }, { on := 10, ground := Ground.chain }, { on := 0, ground := Ground.phase }, { on := 1, ground := Ground.phase }, { on := 2, ground := Ground.phase }, { on := 3, ground := Ground.phase }, { on := 4, ground := Ground.phase }, { on := 5, ground := Ground.phase }, { on := 6, ground := Ground.phase }, { on := 7, ground := Ground.phase }, { on := 8, ground := Ground.phase }, { on := 9, ground := Ground.phase }, { on := 10, ground := Ground.phase }], guard := none }] true).wp Tryz.prog Q a0 W := by
  have hn : ([some 3, some 4, some 5, some 6, some 7, some 8, some 9, some 10, some 11, some 12, some 13, some 2] : List (Option Nat)).Pairwise (fun x y => x = none ∨ x ≠ y) := of_decide_eq_true (by kernel_rfl)
  refine wp_region_inv mixed (fun listed a w => Slots a0 [some 3, some 4, some 5, some 6, some 7, some 8, some 9, some 10, some 11, some 12, some 13, some 2] [some (.pointer (some ⟨g, 3, none⟩)), some (.int .i64 k), some (.string ⟨(wordL k).toArray⟩), some (.pointer (some ⟨g, 0, none⟩)), some (.int .i64 r), some (.pointer (some ⟨g, 1, none⟩)), some (.int .i64 x), some (.pointer (some ⟨g, 2, none⟩)), some (.int .i64 y), some (.slice (some ⟨W.heap.size, 0, none⟩) 3 3), some (.string ⟨T.toArray⟩), some (.string ⟨T.toArray⟩)] listed a ∧ (if listed.getD 10 false = true then Below W.heap.size W w else if listed.getD 9 false = true then w = W.drew.alloc (.cells #[.int .i64 r, .int .i64 x, .int .i64 y] 3) else w = W.drew)) (by kernel_rfl) ?_ ?_ ?_
  · exact ⟨Slots.start _ _ _ _, by rw [start_false, if_neg (by decide), start_false, if_neg (by decide)]⟩
  · intro listed a w i' hsl hilt hl hd hcl ⟨hS, hW⟩
    have hsz : Hid (a.tmps.size = 14) := hS.size.trans hsz0
    have hls : i' < listed.size := by rw [hsl]; exact hilt
    have hcase : i' = 0 ∨ i' = 1 ∨ i' = 2 ∨ i' = 3 ∨ i' = 4 ∨ i' = 5 ∨ i' = 6 ∨ i' = 7 ∨ i' = 8 ∨ i' = 9 ∨ i' = 10 ∨ i' = 11 := by
      have : i' < 12 := hilt
      omega
    rcases hcase with rfl | rfl | rfl | rfl | rfl | rfl | rfl | rfl | rfl | rfl | rfl | rfl
    ·
      refine wpOp_step (o := { dst := some 3, op := Op.fieldAddr 57 (Operand.tmp 1) 3, type := 0, pos := "print.go:33", after := #[], guard := none }) rfl ?_
      intro K hK
      have nF : listed.getD 10 false = false := by
        cases h : listed.getD 10 false with
        | false => rfl
        | true =>
          have h2 := hcl 10 2 h (of_decide_eq_true (by kernel_rfl))
          have h1 := hcl 2 1 h2 (of_decide_eq_true (by kernel_rfl))
          rw [hcl 1 0 h1 (of_decide_eq_true (by kernel_rfl))] at hl; cases hl
      rw [nF, if_neg (by decide)] at hW
      have hb : Below W.heap.size W w := by
        split at hW
        · subst hW; exact ((Below.refl _ W).drew).alloc (Nat.le_refl _) _
        · subst hW; exact (Below.refl _ W).drew
      have q1 : a.tmps[1]? = some (.pointer (some ⟨g, 0, none⟩)) := (hS.keep 1 (of_decide_eq_true (by kernel_rfl))).trans h1
      have m0 := (hG.next hb).cell 0 _ rfl
      have ml := (hG.next hb).lt
      go_simp
      exact hK _ _ ⟨(hS.put hn 0 3 _ rfl (by rw [hsz0]; omega) (fun u h => by injection h with h; injection h with h; exact h.symm)), by
        rw [show (listed.setIfInBounds 0 true).getD 10 false = false by rw [getD_set hls, if_neg (by omega)]; exact nF, if_neg (by decide), show (listed.setIfInBounds 0 true).getD 9 false = listed.getD 9 false by rw [getD_set hls, if_neg (by omega)]]
        exact hW⟩
    ·
      refine wpOp_step (o := { dst := some 4, op := Op.load 3 (Operand.tmp 3), type := 3, pos := "print.go:33", after := #[{ on := 0, ground := Ground.data }], guard := none }) rfl ?_
      intro K hK
      have nF : listed.getD 10 false = false := by
        cases h : listed.getD 10 false with
        | false => rfl
        | true =>
          have h2 := hcl 10 2 h (of_decide_eq_true (by kernel_rfl))
          rw [hcl 2 1 h2 (of_decide_eq_true (by kernel_rfl))] at hl; cases hl
      rw [nF, if_neg (by decide)] at hW
      have hb : Below W.heap.size W w := by
        split at hW
        · subst hW; exact ((Below.refl _ W).drew).alloc (Nat.le_refl _) _
        · subst hW; exact (Below.refl _ W).drew
      have q3 : a.tmps[3]? = some (.pointer (some ⟨g, 3, none⟩)) := hS.val 0 3 _ (hd 0 (of_decide_eq_true (by kernel_rfl))) rfl rfl
      have m0 := (hG.next hb).cell 3 _ rfl
      go_simp
      exact hK _ _ ⟨(hS.put hn 1 4 _ rfl (by rw [hsz0]; omega) (fun u h => by injection h with h; injection h with h; exact h.symm)), by
        rw [show (listed.setIfInBounds 1 true).getD 10 false = false by rw [getD_set hls, if_neg (by omega)]; exact nF, if_neg (by decide), show (listed.setIfInBounds 1 true).getD 9 false = listed.getD 9 false by rw [getD_set hls, if_neg (by omega)]]
        exact hW⟩
    ·
      refine wpOp_step (o := { dst := some 5, op := Op.call { callee := Callee.value (Operand.func 65), args := #[Operand.tmp 4], argTypes := #[3] }, type := 9, pos := "print.go:33", after := #[{ on := 1, ground := Ground.data }], guard := none }) rfl ?_
      intro K hK
      have nF : listed.getD 10 false = false := by
        cases h : listed.getD 10 false with
        | false => rfl
        | true =>
          rw [hcl 10 2 h (of_decide_eq_true (by kernel_rfl))] at hl; cases hl
      rw [nF, if_neg (by decide)] at hW
      have hb : Below W.heap.size W w := by
        split at hW
        · subst hW; exact ((Below.refl _ W).drew).alloc (Nat.le_refl _) _
        · subst hW; exact (Below.refl _ W).drew
      have q4 : a.tmps[4]? = some (.int .i64 k) := hS.val 1 4 _ (hd 1 (of_decide_eq_true (by kernel_rfl))) rfl rfl
      go_simp
      refine (word_any k w).mono ?_
      rintro e w' ⟨rfl, rfl⟩
      go_simp
      exact hK _ _ ⟨(hS.put hn 2 5 _ rfl (by rw [hsz0]; omega) (fun u h => by injection h with h; injection h with h; exact h.symm)), by
        rw [show (listed.setIfInBounds 2 true).getD 10 false = false by rw [getD_set hls, if_neg (by omega)]; exact nF, if_neg (by decide), show (listed.setIfInBounds 2 true).getD 9 false = listed.getD 9 false by rw [getD_set hls, if_neg (by omega)]]
        exact hW⟩
    ·
      refine wpOp_step (o := { dst := some 6, op := Op.fieldAddr 57 (Operand.tmp 1) 0, type := 0, pos := "print.go:33", after := #[], guard := none }) rfl ?_
      intro K hK
      have nF : listed.getD 10 false = false := by
        cases h : listed.getD 10 false with
        | false => rfl
        | true =>
          have h9 := hcl 10 9 h (of_decide_eq_true (by kernel_rfl))
          have h4 := hcl 9 4 h9 (of_decide_eq_true (by kernel_rfl))
          rw [hcl 4 3 h4 (of_decide_eq_true (by kernel_rfl))] at hl; cases hl
      rw [nF, if_neg (by decide)] at hW
      have hb : Below W.heap.size W w := by
        split at hW
        · subst hW; exact ((Below.refl _ W).drew).alloc (Nat.le_refl _) _
        · subst hW; exact (Below.refl _ W).drew
      have q1 : a.tmps[1]? = some (.pointer (some ⟨g, 0, none⟩)) := (hS.keep 1 (of_decide_eq_true (by kernel_rfl))).trans h1
      have m0 := (hG.next hb).cell 0 _ rfl
      have ml := (hG.next hb).lt
      go_simp
      exact hK _ _ ⟨(hS.put hn 3 6 _ rfl (by rw [hsz0]; omega) (fun u h => by injection h with h; injection h with h; exact h.symm)), by
        rw [show (listed.setIfInBounds 3 true).getD 10 false = false by rw [getD_set hls, if_neg (by omega)]; exact nF, if_neg (by decide), show (listed.setIfInBounds 3 true).getD 9 false = listed.getD 9 false by rw [getD_set hls, if_neg (by omega)]]
        exact hW⟩
    ·
      refine wpOp_step (o := { dst := some 7, op := Op.load 3 (Operand.tmp 6), type := 3, pos := "print.go:33", after := #[{ on := 3, ground := Ground.data }], guard := none }) rfl ?_
      intro K hK
      have nF : listed.getD 10 false = false := by
        cases h : listed.getD 10 false with
        | false => rfl
        | true =>
          have h9 := hcl 10 9 h (of_decide_eq_true (by kernel_rfl))
          rw [hcl 9 4 h9 (of_decide_eq_true (by kernel_rfl))] at hl; cases hl
      rw [nF, if_neg (by decide)] at hW
      have hb : Below W.heap.size W w := by
        split at hW
        · subst hW; exact ((Below.refl _ W).drew).alloc (Nat.le_refl _) _
        · subst hW; exact (Below.refl _ W).drew
      have q6 : a.tmps[6]? = some (.pointer (some ⟨g, 0, none⟩)) := hS.val 3 6 _ (hd 3 (of_decide_eq_true (by kernel_rfl))) rfl rfl
      have m0 := (hG.next hb).cell 0 _ rfl
      go_simp
      exact hK _ _ ⟨(hS.put hn 4 7 _ rfl (by rw [hsz0]; omega) (fun u h => by injection h with h; injection h with h; exact h.symm)), by
        rw [show (listed.setIfInBounds 4 true).getD 10 false = false by rw [getD_set hls, if_neg (by omega)]; exact nF, if_neg (by decide), show (listed.setIfInBounds 4 true).getD 9 false = listed.getD 9 false by rw [getD_set hls, if_neg (by omega)]]
        exact hW⟩
    ·
      refine wpOp_step (o := { dst := some 8, op := Op.fieldAddr 57 (Operand.tmp 1) 1, type := 0, pos := "print.go:33", after := #[], guard := none }) rfl ?_
      intro K hK
      have nF : listed.getD 10 false = false := by
        cases h : listed.getD 10 false with
        | false => rfl
        | true =>
          have h9 := hcl 10 9 h (of_decide_eq_true (by kernel_rfl))
          have h6 := hcl 9 6 h9 (of_decide_eq_true (by kernel_rfl))
          rw [hcl 6 5 h6 (of_decide_eq_true (by kernel_rfl))] at hl; cases hl
      rw [nF, if_neg (by decide)] at hW
      have hb : Below W.heap.size W w := by
        split at hW
        · subst hW; exact ((Below.refl _ W).drew).alloc (Nat.le_refl _) _
        · subst hW; exact (Below.refl _ W).drew
      have q1 : a.tmps[1]? = some (.pointer (some ⟨g, 0, none⟩)) := (hS.keep 1 (of_decide_eq_true (by kernel_rfl))).trans h1
      have m0 := (hG.next hb).cell 0 _ rfl
      have ml := (hG.next hb).lt
      go_simp
      exact hK _ _ ⟨(hS.put hn 5 8 _ rfl (by rw [hsz0]; omega) (fun u h => by injection h with h; injection h with h; exact h.symm)), by
        rw [show (listed.setIfInBounds 5 true).getD 10 false = false by rw [getD_set hls, if_neg (by omega)]; exact nF, if_neg (by decide), show (listed.setIfInBounds 5 true).getD 9 false = listed.getD 9 false by rw [getD_set hls, if_neg (by omega)]]
        exact hW⟩
    ·
      refine wpOp_step (o := { dst := some 9, op := Op.load 3 (Operand.tmp 8), type := 3, pos := "print.go:33", after := #[{ on := 5, ground := Ground.data }], guard := none }) rfl ?_
      intro K hK
      have nF : listed.getD 10 false = false := by
        cases h : listed.getD 10 false with
        | false => rfl
        | true =>
          have h9 := hcl 10 9 h (of_decide_eq_true (by kernel_rfl))
          rw [hcl 9 6 h9 (of_decide_eq_true (by kernel_rfl))] at hl; cases hl
      rw [nF, if_neg (by decide)] at hW
      have hb : Below W.heap.size W w := by
        split at hW
        · subst hW; exact ((Below.refl _ W).drew).alloc (Nat.le_refl _) _
        · subst hW; exact (Below.refl _ W).drew
      have q8 : a.tmps[8]? = some (.pointer (some ⟨g, 1, none⟩)) := hS.val 5 8 _ (hd 5 (of_decide_eq_true (by kernel_rfl))) rfl rfl
      have m0 := (hG.next hb).cell 1 _ rfl
      go_simp
      exact hK _ _ ⟨(hS.put hn 6 9 _ rfl (by rw [hsz0]; omega) (fun u h => by injection h with h; injection h with h; exact h.symm)), by
        rw [show (listed.setIfInBounds 6 true).getD 10 false = false by rw [getD_set hls, if_neg (by omega)]; exact nF, if_neg (by decide), show (listed.setIfInBounds 6 true).getD 9 false = listed.getD 9 false by rw [getD_set hls, if_neg (by omega)]]
        exact hW⟩
    ·
      refine wpOp_step (o := { dst := some 10, op := Op.fieldAddr 57 (Operand.tmp 1) 2, type := 0, pos := "print.go:33", after := #[], guard := none }) rfl ?_
      intro K hK
      have nF : listed.getD 10 false = false := by
        cases h : listed.getD 10 false with
        | false => rfl
        | true =>
          have h9 := hcl 10 9 h (of_decide_eq_true (by kernel_rfl))
          have h8 := hcl 9 8 h9 (of_decide_eq_true (by kernel_rfl))
          rw [hcl 8 7 h8 (of_decide_eq_true (by kernel_rfl))] at hl; cases hl
      rw [nF, if_neg (by decide)] at hW
      have hb : Below W.heap.size W w := by
        split at hW
        · subst hW; exact ((Below.refl _ W).drew).alloc (Nat.le_refl _) _
        · subst hW; exact (Below.refl _ W).drew
      have q1 : a.tmps[1]? = some (.pointer (some ⟨g, 0, none⟩)) := (hS.keep 1 (of_decide_eq_true (by kernel_rfl))).trans h1
      have m0 := (hG.next hb).cell 0 _ rfl
      have ml := (hG.next hb).lt
      go_simp
      exact hK _ _ ⟨(hS.put hn 7 10 _ rfl (by rw [hsz0]; omega) (fun u h => by injection h with h; injection h with h; exact h.symm)), by
        rw [show (listed.setIfInBounds 7 true).getD 10 false = false by rw [getD_set hls, if_neg (by omega)]; exact nF, if_neg (by decide), show (listed.setIfInBounds 7 true).getD 9 false = listed.getD 9 false by rw [getD_set hls, if_neg (by omega)]]
        exact hW⟩
    ·
      refine wpOp_step (o := { dst := some 11, op := Op.load 3 (Operand.tmp 10), type := 3, pos := "print.go:33", after := #[{ on := 7, ground := Ground.data }], guard := none }) rfl ?_
      intro K hK
      have nF : listed.getD 10 false = false := by
        cases h : listed.getD 10 false with
        | false => rfl
        | true =>
          have h9 := hcl 10 9 h (of_decide_eq_true (by kernel_rfl))
          rw [hcl 9 8 h9 (of_decide_eq_true (by kernel_rfl))] at hl; cases hl
      rw [nF, if_neg (by decide)] at hW
      have hb : Below W.heap.size W w := by
        split at hW
        · subst hW; exact ((Below.refl _ W).drew).alloc (Nat.le_refl _) _
        · subst hW; exact (Below.refl _ W).drew
      have q10 : a.tmps[10]? = some (.pointer (some ⟨g, 2, none⟩)) := hS.val 7 10 _ (hd 7 (of_decide_eq_true (by kernel_rfl))) rfl rfl
      have m0 := (hG.next hb).cell 2 _ rfl
      go_simp
      exact hK _ _ ⟨(hS.put hn 8 11 _ rfl (by rw [hsz0]; omega) (fun u h => by injection h with h; injection h with h; exact h.symm)), by
        rw [show (listed.setIfInBounds 8 true).getD 10 false = false by rw [getD_set hls, if_neg (by omega)]; exact nF, if_neg (by decide), show (listed.setIfInBounds 8 true).getD 9 false = listed.getD 9 false by rw [getD_set hls, if_neg (by omega)]]
        exact hW⟩
    ·
      refine wpOp_step (o := { dst := some 12, op := Op.buildSlice 22 3 #[(0, Operand.tmp 7), (1, Operand.tmp 9), (2, Operand.tmp 11)], type := 22, pos := "print.go:33", after := #[{ on := 4, ground := Ground.data }, { on := 6, ground := Ground.data }, { on := 8, ground := Ground.data }], guard := none }) rfl ?_
      intro K hK
      have nF : listed.getD 10 false = false := by
        cases h : listed.getD 10 false with
        | false => rfl
        | true =>
          rw [hcl 10 9 h (of_decide_eq_true (by kernel_rfl))] at hl; cases hl
      rw [nF, if_neg (by decide)] at hW
      have q7 : a.tmps[7]? = some (.int .i64 r) := hS.val 4 7 _ (hd 4 (of_decide_eq_true (by kernel_rfl))) rfl rfl
      have q9 : a.tmps[9]? = some (.int .i64 x) := hS.val 6 9 _ (hd 6 (of_decide_eq_true (by kernel_rfl))) rfl rfl
      have q11 : a.tmps[11]? = some (.int .i64 y) := hS.val 8 11 _ (hd 8 (of_decide_eq_true (by kernel_rfl))) rfl rfl
      have nB : listed.getD 9 false = false := hl
      rw [nB, if_neg (by decide)] at hW
      subst hW
      have hws : W.drew.heap.size = W.heap.size := rfl
      go_simp
      refine hK _ _ ⟨(hS.put hn 9 12 _ rfl (by rw [hsz0]; omega) (fun u h => by injection h with h; injection h with h; exact h.symm)), ?_⟩
      rw [show (listed.setIfInBounds 9 true).getD 10 false = false by rw [getD_set hls, if_neg (by omega)]; exact nF, if_neg (by decide), show (listed.setIfInBounds 9 true).getD 9 false = true by rw [getD_set hls, if_pos rfl], if_pos rfl]
      rfl
    ·
      refine wpOp_step (o := { dst := some 13, op := Op.call { callee := Callee.value (Operand.func 43), args := #[Operand.tmp 5, Operand.tmp 12], argTypes := #[9, 22] }, type := 9, pos := "print.go:33", after := #[{ on := 2, ground := Ground.data }, { on := 9, ground := Ground.data }, { on := 2, ground := Ground.chain }], guard := none }) rfl ?_
      intro K hK
      have q5 : a.tmps[5]? = some (.string ⟨(wordL k).toArray⟩) := hS.val 2 5 _ (hd 2 (of_decide_eq_true (by kernel_rfl))) rfl rfl
      have q12 : a.tmps[12]? = some (.slice (some ⟨W.heap.size, 0, none⟩) 3 3) := hS.val 9 12 _ (hd 9 (of_decide_eq_true (by kernel_rfl))) rfl rfl
      have nF : listed.getD 10 false = false := hl
      have hB := hd 9 (of_decide_eq_true (by kernel_rfl))
      rw [nF, if_neg (by decide), hB, if_pos rfl] at hW
      subst hW
      go_simp
      refine HF.mono ?_
      rintro e w' ⟨rfl, hbw⟩
      go_simp
      refine hK _ _ ⟨(hS.put hn 10 13 _ rfl (by rw [hsz0]; omega) (fun u h => by injection h with h; injection h with h; exact h.symm)), ?_⟩
      rw [show (listed.setIfInBounds 10 true).getD 10 false = true by rw [getD_set hls, if_pos rfl], if_pos rfl]
      exact (((Below.refl _ W).drew).alloc (Nat.le_refl _) _).trans (hbw.mono (by rw [World.size_alloc]; exact Nat.le_succ W.heap.size))
    ·
      refine wpOp_step (o := { dst := some 2, op := Op.assign (Operand.tmp 13), type := 9, pos := "print.go:33", after := #[{ on := 10, ground := Ground.data }, { on := 10, ground := Ground.chain }, { on := 0, ground := Ground.phase }, { on := 1, ground := Ground.phase }, { on := 2, ground := Ground.phase }, { on := 3, ground := Ground.phase }, { on := 4, ground := Ground.phase }, { on := 5, ground := Ground.phase }, { on := 6, ground := Ground.phase }, { on := 7, ground := Ground.phase }, { on := 8, ground := Ground.phase }, { on := 9, ground := Ground.phase }, { on := 10, ground := Ground.phase }], guard := none }) rfl ?_
      intro K hK
      have q13 : a.tmps[13]? = some (.string ⟨T.toArray⟩) := hS.val 10 13 _ (hd 10 (of_decide_eq_true (by kernel_rfl))) rfl rfl
      have hF := hd 10 (of_decide_eq_true (by kernel_rfl))
      rw [hF, if_pos rfl] at hW
      go_simp
      refine hK _ _ ⟨(hS.put hn 11 2 _ rfl (by rw [hsz0]; omega) (fun u h => by injection h with h; injection h with h; exact h.symm)), ?_⟩
      rw [show (listed.setIfInBounds 11 true).getD 10 false = listed.getD 10 false by rw [getD_set hls, if_neg (by omega)], hF, if_pos rfl]
      exact hW
  · intro listed a w hall ⟨hS, hW⟩
    rw [hall 10 (by show 10 < 12; omega), if_pos rfl] at hW
    have he := hS.frame [(3, .pointer (some ⟨g, 3, none⟩)), (4, .int .i64 k), (5, .string ⟨(wordL k).toArray⟩), (6, .pointer (some ⟨g, 0, none⟩)), (7, .int .i64 r), (8, .pointer (some ⟨g, 1, none⟩)), (9, .int .i64 x), (10, .pointer (some ⟨g, 2, none⟩)), (11, .int .i64 y), (12, .slice (some ⟨W.heap.size, 0, none⟩) 3 3), (13, .string ⟨T.toArray⟩), (2, .string ⟨T.toArray⟩)] rfl (by show List.Pairwise _ [3, 4, 5, 6, 7, 8, 9, 10, 11, 12, 13, 2]; decide) (by simp [hsz0]) (by
        intro p hp
        simp only [List.mem_cons, List.not_mem_nil, or_false] at hp
        rcases hp with rfl | rfl | rfl | rfl | rfl | rfl | rfl | rfl | rfl | rfl | rfl | rfl
        · exact hS.val 0 3 _ (hall 0 (by show 0 < 12; omega)) rfl rfl
        · exact hS.val 1 4 _ (hall 1 (by show 1 < 12; omega)) rfl rfl
        · exact hS.val 2 5 _ (hall 2 (by show 2 < 12; omega)) rfl rfl
        · exact hS.val 3 6 _ (hall 3 (by show 3 < 12; omega)) rfl rfl
        · exact hS.val 4 7 _ (hall 4 (by show 4 < 12; omega)) rfl rfl
        · exact hS.val 5 8 _ (hall 5 (by show 5 < 12; omega)) rfl rfl
        · exact hS.val 6 9 _ (hall 6 (by show 6 < 12; omega)) rfl rfl
        · exact hS.val 7 10 _ (hall 7 (by show 7 < 12; omega)) rfl rfl
        · exact hS.val 8 11 _ (hall 8 (by show 8 < 12; omega)) rfl rfl
        · exact hS.val 9 12 _ (hall 9 (by show 9 < 12; omega)) rfl rfl
        · exact hS.val 10 13 _ (hall 10 (by show 10 < 12; omega)) rfl rfl
        · exact hS.val 11 2 _ (hall 11 (by show 11 < 12; omega)) rfl rfl
      )
    rw [he]
    exact hQ w hW
end Go.Proofs.YtpkjhlcolgoknaaGreatDoor.Prn

namespace Go.Proofs.YtpkjhlcolgoknaaGreatDoor.Prn
set_option linter.unusedVariables false
set_option maxRecDepth 100000
open Go.RowKit Go.Shelf
open Go.Proofs.YtpkjhlcolgoknaaGreatDoor.Ven (Seat Box putAll)

set_option maxHeartbeats 1000000 in
/-- print.Seat: a seat's line. -/
theorem seat_any (s : Seat) (h0 : I64 s.row) (h1 : I64 s.x) (h2 : I64 s.y) (w : World) (hp : Pow w) :
    Calls Tryz.prog 39 #[.agg #[.int .i64 s.row, .int .i64 s.x, .int .i64 s.y, .int .i64 s.kind]] w fun e w' => e = .returned (.string ⟨(seatL s).toArray⟩) ∧ Below w.heap.size w w' := by
  obtain ⟨r, x, y, k⟩ := s
  simp only at h0 h1 h2
  unfold seatL
  simp only []
  have hb0 := Ven.below_alloc w (.cells #[.int .i64 r, .int .i64 x, .int .i64 y, .int .i64 k] 57)
  have hG := Box.fresh w 57 #[.int .i64 r, .int .i64 x, .int .i64 y, .int .i64 k]
  have HB : Hid (Below w.heap.size w (w.alloc (.cells #[.int .i64 r, .int .i64 x, .int .i64 y, .int .i64 k] 57))) := hb0
  have HG : Hid (Box (w.alloc (.cells #[.int .i64 r, .int .i64 x, .int .i64 y, .int .i64 k] 57)) w.heap.size 57 #[.int .i64 r, .int .i64 x, .int .i64 y, .int .i64 k]) := hG
  have HP : Hid (Pow (w.alloc (.cells #[.int .i64 r, .int .i64 x, .int .i64 y, .int .i64 k] 57))) := Pow.next hp hb0
  have HN : Hid (∀ n ∈ [r, x, y], I64 n) := by intro n hn; simp at hn; rcases hn with rfl | rfl | rfl <;> assumption
  clear hb0 hG hp h0 h1 h2
  go_enter Tryz.func39, Tryz.ntmps39
  go_wp2_with fail
  refine seat_region _ _ rfl w.heap.size rfl r x y k (factL (wordL k) [r, x, y]) HG.out ?_ ?_
  · refine fact_any (wordL k) (by have := wordL_len k; omega) [r, x, y] HN.out (by simp) _ 0 3 _ ?_ (HP.out.next ?_)
    · refine Ven.Box.cells (k := 1) (enc := Ven.intC) (fun _ => rfl) (Box.fresh _ _ _) rfl
    · exact below_drew_alloc _ _
  · intro w' hb
    have HX : Hid (Below w.heap.size w w') := HB.out.trans (hb.mono HB.out.size)
    clear hb HB HG HP HN
    generalize factL (wordL k) [r, x, y] = T
    simp only [putAll]
    go_wp2
    go_ret
    refine ⟨?_, HX.out⟩
    kernel_rfl
end Go.Proofs.YtpkjhlcolgoknaaGreatDoor.Prn

namespace Go.Proofs.YtpkjhlcolgoknaaGreatDoor.Prn
set_option linter.unusedVariables false
set_option maxRecDepth 100000
open Go.RowKit Go.Shelf Go.Lib

theorem bapp (l r : List UInt8) : (⟨l.toArray⟩ : ByteArray) ++ ⟨r.toArray⟩ = ⟨(l ++ r).toArray⟩ := by rw [ByteArray.mk_append_mk]
/-- A builder at the block 'b' that holds these bytes; it and its buffer lie from the block 'B' on. -/
def Bld (w : World) (B b : Nat) (l : List UInt8) : Prop := IsBuilderF 92 5 B b (byteCells l) w ∧ B ≤ w.heap.size
theorem Bld.next {w w' : World} {B b : Nat} {l : List UInt8} (h : Bld w B b l) (hb : Below w.heap.size w w') : Bld w' B b l := by
  have hg : w.grownBy w' none := ⟨hb.os, hb.tape, hb.output, hb.size, fun i hi _ => hb.block i hi⟩
  refine ⟨?_, Nat.le_trans h.2 hb.size⟩
  rcases h.1 with h | h
  · have hlt := h.lt
    obtain ⟨hB, v, hbk, hown, hne⟩ := h
    exact .inl ⟨hB, v, (hb.block b hlt).trans hbk, hown.kept hg (by cases hv : v.ownBlock <;> simp), hne⟩
  · have hlt := h.lt
    obtain ⟨hB, v, hbk, hown, hne⟩ := h
    exact .inr ⟨hB, v, (hb.block b hlt).trans hbk, hown.kept hg (by cases hv : v.ownBlock <;> simp), hne⟩
theorem Bld.fresh (w : World) : Bld (w.alloc (.cells #[.pointer none, .slice none 0 0] 92)) w.heap.size w.heap.size [] :=
  ⟨.inl ⟨Nat.le_refl _, .slice none 0 0, heap_alloc_new w _, ⟨rfl, .inl ⟨rfl, rfl⟩⟩, by simp [Value.ownBlock]⟩, by simp⟩
theorem strCells_mk (l : List UInt8) : strCells ⟨l.toArray⟩ = byteCells l := by simp [strCells, byteCells]
theorem byteCells_append (a b : List UInt8) : byteCells a ++ byteCells b = byteCells (a ++ b) := by simp [byteCells]
/-- A text written behind. -/
theorem ws_any (B b : Nat) (l s : List UInt8) (w : World) (h : Bld w B b l) (hlen : l.length + s.length ≤ 1073741824) :
    Calls Tryz.prog 42 #[.pointer (some ⟨b, 0, none⟩), .string ⟨s.toArray⟩] w fun e w' => e = .returned (.tuple #[.int .i64 s.length, .nilIface]) ∧ Bld w' B b (l ++ s) ∧ Below B w w' := by
  refine (Flt.WriteString_k B b (byteCells l) ⟨s.toArray⟩ w h.1 (by rw [byteCells_length]; show l.length + s.toArray.size ≤ _; simp; omega) h.2).mono ?_
  rintro e w' ⟨rfl, h1, h2, _⟩
  rw [strCells_mk, byteCells_append] at h1
  refine ⟨?_, ⟨.inr h1, Nat.le_trans h.2 h2.size⟩, h2⟩
  show Ending.returned (.tuple #[.int .i64 (s.toArray.size : Nat), .nilIface]) = _
  simp
set_option maxHeartbeats 2000000 in
theorem wb_kept (B b : Nat) (l : List UInt8) (c : UInt8) (w : World) (hb : Bld w B b l) (hlen : l.length ≤ 1073741824) :
    Calls Tryz.prog 66 #[.pointer (some ⟨b, 0, none⟩), .int .u8 (c.toNat : Int)] w fun e w' => e = .returned .nilIface ∧ Bld w' B b (l ++ [c]) ∧ Below B w w' ∧ OthersKept 5 (some b) w w' := by
  obtain ⟨h, hBw⟩ := hb
  obtain ⟨i0, hi, hz0, hz1, hz2⟩ := info_parts Flt.infoByte
  have hbl := byteCells_length l
  have hbe : byteCells (l ++ [c]) = byteCells l ++ [.int .u8 (c.toNat : Int)] := by simp [byteCells]
  have HBE : Hid (byteCells (l ++ [c]) = byteCells l ++ [.int .u8 (c.toNat : Int)]) := hbe
  clear hbe
  generalize (c.toNat : Int) = ci at HBE
  go_enter Tryz.func66, Tryz.ntmps66
  go_wp2_with (go_at_call 71; refine (Flt.copyCheck_k B b _ _ h).mono ?_)
  rintro e w1 ⟨rfl, h1, hb1, hk1⟩
  obtain ⟨hB, v, hbk, hown, hne⟩ := h1
  have c0 : w1.cell? ⟨b, 0, none⟩ = some (.pointer (some ⟨b, 0, none⟩)) := by rw [cell_of_heap hbk]; rfl
  have c1 : w1.cell? ⟨b, 1, none⟩ = some v := by rw [cell_of_heap hbk]; rfl
  go_wp2_with (at_builtin; refine wpList_append_ownF _ rfl _ _ 51 rfl B 5 i0 (.int .u8 0) 1 1 Tryz.underlying51 hi hz0 hz1 hz2 rfl (by decide) _ _ _ rfl (hown.alloc _) ⟨w1.heap.size, 0, none⟩ 1 1 [.int .u8 ci] rfl rfl ?c1 ?c2 ?c3 ?c4 ?c5 ?_)
  case c1 =>
    intro j u hj
    match j, hj with
    | 0, hj => simp at hj; subst hj; simp [Addr.add]
  case c2 => intro u hu; simp at hu; subst hu; rfl
  case c3 => unfold maxLen; omega
  case c4 => omega
  case c5 => have := hb1.size; simp; omega
  intro v' w2 hown' hgrow _
  have hlt : b < w1.heap.size := by
    rcases Nat.lt_or_ge b w1.heap.size with h' | h'
    · exact h'
    · simp [Array.getElem?_eq_none h'] at hbk
  have hb2 : w2.heap[b]? = some (.cells #[.pointer (some ⟨b, 0, none⟩), v] 92 (0, 0)) := by
    rw [hgrow.block b (by simp; omega) (fun e => hne e.symm), alloc_old w1 _ b hlt]
    exact hbk
  have d0 : w2.cell? ⟨b, 0, none⟩ = some (.pointer (some ⟨b, 0, none⟩)) := by rw [cell_of_heap hb2]; rfl
  have d1 : w2.cell? ⟨b, 1, none⟩ = some v := by rw [cell_of_heap hb2]; rfl
  have f1 : w2.frozen? ⟨b, 1, none⟩ = false := frozen_of_heap hb2 1
  obtain ⟨g, cap, rfl⟩ : ∃ g cap, v' = .slice (some ⟨g, 0, none⟩) (l.length + 1) cap := by
    rcases hown'.2 with ⟨_, h0⟩ | ⟨g, cap, cur, fz, hv, _⟩
    · omega
    · exact ⟨g, cap, hv⟩
  have hbb := ((hb1.alloc (by have := hb1.size; omega) _).grown hgrow (by have := hb1.size; simp; omega) (fun k hk => (hown.lt k hk).1)).setCell (p := ⟨b, 1, none⟩) hB (.slice (some ⟨g, 0, none⟩) (l.length + 1) cap)
  have hkk := ((hk1.alloc _).grown hgrow (ownsRowF_kind (hown.alloc _))).setCell ⟨b, 1, none⟩ rfl (.slice (some ⟨g, 0, none⟩) (l.length + 1) cap)
  go_wp2
  go_ret
  refine ⟨rfl, ⟨.inr ?_, by simpa using Nat.le_trans hBw hbb.size⟩, hbb, hkk⟩
  rw [HBE.out]
  exact BuilderAtF.put (T := 92) (e := 5) hB hb2 (bs' := byteCells l ++ [.int .u8 ci]) (by rw [List.length_append, hbl]; exact hown') (by decide)
theorem wb_any (B b : Nat) (l : List UInt8) (c : UInt8) (w : World) (hb : Bld w B b l) (hlen : l.length ≤ 1073741824) :
    Calls Tryz.prog 66 #[.pointer (some ⟨b, 0, none⟩), .int .u8 (c.toNat : Int)] w fun e w' => e = .returned .nilIface ∧ Bld w' B b (l ++ [c]) ∧ Below B w w' :=
  (wb_kept B b l c w hb hlen).mono fun e w' ⟨h1, h2, h3, _⟩ => ⟨h1, h2, h3⟩
/-- A block of another type, and no builder, is kept beside a builder that is written. -/
theorem kept_block {w w' : World} {B b q : Nat} {l : List UInt8} {T : TypeId} {cs : Array Value} (hk : OthersKept 5 (some b) w w') (hB : Bld w B b l) (h : w.heap[q]? = some (.cells cs T (0, 0))) (h5 : T ≠ 5) (hT : T ≠ 92) : w'.heap[q]? = some (.cells cs T (0, 0)) := by
  refine hk q _ h (fun hc => ?_) (fun c fz he => h5 (by injection he))
  injection hc with hc
  subst hc
  rcases hB.1 with ⟨_, v, hb, _⟩ | ⟨_, v, hb, _⟩
  · rw [h] at hb; exact hT (by injection hb with hb; injection hb)
  · rw [h] at hb; exact hT (by injection hb with hb; injection hb)
theorem str_any (B b : Nat) (l : List UInt8) (w : World) (h : Bld w B b l) :
    Calls Tryz.prog 44 #[.pointer (some ⟨b, 0, none⟩)] w fun e w' => e = .returned (.string ⟨l.toArray⟩) ∧ Below B w w' :=
  (Tryz.Builder_String_any_k B b l w h.1 h.2).mono fun e w' ⟨h1, _, h2, _⟩ => ⟨h1, h2⟩
end Go.Proofs.YtpkjhlcolgoknaaGreatDoor.Prn
