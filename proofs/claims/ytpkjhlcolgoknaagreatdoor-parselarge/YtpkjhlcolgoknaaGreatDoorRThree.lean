/- A pole, a seat of three numbers that a line tells: the statements of parse's add and addSeat that make them. -/
import Derived.Test.YtpkjhlcolgoknaaGreatDoorZac
import Derived.Test.YtpkjhlcolgoknaaGreatDoorVInv
namespace Go.Proofs.YtpkjhlcolgoknaaGreatDoor.Par
set_option linter.unusedVariables false
set_option maxRecDepth 100000
open Go.RowKit Go.Shelf
open Go.Proofs.YtpkjhlcolgoknaaGreatDoor.Ven (Box Slots wp_region_inv getD_set start_false putAll Slots.start mixed)

set_option maxHeartbeats 1000000 in
theorem pole_region {Q : Exit → Act → World → Prop} (a0 : Act) (W : World) (hsz0 : a0.tmps.size = 101) (fb : Nat) (h3 : a0.tmps[3]? = some (.pointer (some ⟨fb, 0, none⟩))) (tk tn tl tc : Int) (tt : List UInt8) (v : Value) (rest : List T)
    (hF : Box W fb 133 #[.int .i64 tk, .int .i64 tn, .int .i64 tl, .int .i64 tc, .string ⟨tt.toArray⟩, v])
    (HN : ∀ w, Below W.heap.size W w → ∀ i : Nat, i < 3 → ∀ n, nOf rest i = n → Calls Tryz.prog 113 #[factV tk tn tl tc tt v, .int .i64 i] w fun e w' => e = .returned (.int .i64 n) ∧ Below w.heap.size w w')
    (x y z : Int) (hx : nOf rest 0 = x) (hy : nOf rest 1 = y) (hz : nOf rest 2 = z)
    (hQ : ∀ w' b, Below W.heap.size W w' → W.heap.size ≤ b → Box w' b 85 #[.int .i64 x, .int .i64 y, .int .i64 z] → Q .normal { tmps := putAll a0.tmps [(46, factV tk tn tl tc tt v), (47, .int .i64 x), (48, factV tk tn tl tc tt v), (49, .int .i64 y), (50, factV tk tn tl tc tt v), (51, .int .i64 z), (52, .agg #[.int .i64 x, .int .i64 y, .int .i64 z]), (5, .pointer (some ⟨b, 0, none⟩))], defers := a0.defers } w') :
    (Code.region 12 #[{ dst := some 46, op := Op.load 133 (Operand.tmp 3), type := 133, pos := "hall.go:67", after := #[], guard := none }, { dst := some 47, op := Op.call { callee := Callee.value (Operand.func 113), args := #[Operand.tmp 46, Operand.const (Value.int IntKind.i64 0)], argTypes := #[133, 3] }, type := 3, pos := "hall.go:67", after := #[{ on := 0, ground := Ground.data }], guard := none }, { dst := some 48, op := Op.load 133 (Operand.tmp 3), type := 133, pos := "hall.go:67", after := #[], guard := none }, { dst := some 49, op := Op.call { callee := Callee.value (Operand.func 113), args := #[Operand.tmp 48, Operand.const (Value.int IntKind.i64 1)], argTypes := #[133, 3] }, type := 3, pos := "hall.go:67", after := #[{ on := 2, ground := Ground.data }, { on := 1, ground := Ground.chain }], guard := none }, { dst := some 50, op := Op.load 133 (Operand.tmp 3), type := 133, pos := "hall.go:67", after := #[], guard := none }, { dst := some 51, op := Op.call { callee := Callee.value (Operand.func 113), args := #[Operand.tmp 50, Operand.const (Value.int IntKind.i64 2)], argTypes := #[133, 3] }, type := 3, pos := "hall.go:67", after := #[{ on := 4, ground := Ground.data }, { on := 3, ground := Ground.chain }], guard := none }, { dst := some 52, op := Op.build 85 #[(0, Operand.tmp 47), (1, Operand.tmp 49), (2, Operand.tmp 51)], type := 85, pos := "hall.go:67", after := #[{ on := 1, ground := Ground.data }, { on := 3, ground := Ground.data }, { on := 5, ground := Ground.data }], guard := none }, { dst := some 5, op := Op.alloc 85, type := 0, pos := "hall.go:67", after := #[], guard := none }, { dst := none, op := Op.store 85 (Operand.tmp 5) (Operand.tmp 52), type := 0, pos := "hall.go:67", after := #[{ on := 7, ground := Ground.data }, { on := 6, ground := Ground.data }, { on := 5, ground := Ground.chain }, { on := 0, ground := Ground.phase }, { on := 1, ground := Ground.phase }, { on := 2, ground := Ground.phase }, { on := 3, ground := Ground.phase }, { on := 4, ground := Ground.phase }, { on := 5, ground := Ground.phase }, { on := 6, ground := Ground.phase }, { on := 7, ground := Ground.phase }], guard := none }] true).wp Tryz.prog Q a0 W := by
  have hn : ([some 46, some 47, some 48, some 49, some 50, some 51, some 52, some 5, none] : List (Option Nat)).Pairwise (fun x y => x = none ∨ x ≠ y) := of_decide_eq_true (by kernel_rfl)
  refine wp_region_inv mixed (fun listed a w => Slots a0 [some 46, some 47, some 48, some 49, some 50, some 51, some 52, some 5, none] [some (factV tk tn tl tc tt v), some (.int .i64 x), some (factV tk tn tl tc tt v), some (.int .i64 y), some (factV tk tn tl tc tt v), some (.int .i64 z), some (.agg #[.int .i64 x, .int .i64 y, .int .i64 z]), none, none] listed a ∧ Below W.heap.size W w ∧ (listed.getD 7 false = true → ∃ b, W.heap.size ≤ b ∧ a.tmps[5]? = some (.pointer (some ⟨b, 0, none⟩)) ∧ Box w b 85 (if listed.getD 8 false = true then #[.int .i64 x, .int .i64 y, .int .i64 z] else #[.int .i64 0, .int .i64 0, .int .i64 0]))) (by kernel_rfl) ?_ ?_ ?_
  · exact ⟨Slots.start _ _ _ _, (Below.refl _ W).drew, fun h => by rw [start_false] at h; cases h⟩
  · intro listed a w i' hsl hilt hl hd hcl ⟨hS, hb, hA⟩
    have hsz : Hid (a.tmps.size = 101) := hS.size.trans hsz0
    have hls : i' < listed.size := by rw [hsl]; exact hilt
    have hcase : i' = 0 ∨ i' = 1 ∨ i' = 2 ∨ i' = 3 ∨ i' = 4 ∨ i' = 5 ∨ i' = 6 ∨ i' = 7 ∨ i' = 8 := by
      have : i' < 9 := hilt
      omega
    rcases hcase with rfl | rfl | rfl | rfl | rfl | rfl | rfl | rfl | rfl
    ·
      refine wpOp_step (o := { dst := some 46, op := Op.load 133 (Operand.tmp 3), type := 133, pos := "hall.go:67", after := #[], guard := none }) rfl ?_
      intro K hK
      have q3 : a.tmps[3]? = some (.pointer (some ⟨fb, 0, none⟩)) := (hS.keep 3 (of_decide_eq_true (by kernel_rfl))).trans h3
      have bx := hF.next hb
      have m0 := bx.cell 0 _ rfl
      have m1 := bx.cell 1 _ rfl
      have m2 := bx.cell 2 _ rfl
      have m3 := bx.cell 3 _ rfl
      have m4 := bx.cell 4 _ rfl
      have m5 := bx.cell 5 _ rfl
      go_simp
      exact hK _ _ ⟨(hS.put hn 0 46 _ rfl (by rw [hsz0]; omega) (fun u h => by injection h with h; injection h with h; exact h.symm)), hb, fun h => by
        rw [getD_set hls, if_neg (by omega)] at h
        obtain ⟨b, hb1, hb2, hb3⟩ := hA h
        refine ⟨b, hb1, by simpa using hb2, ?_⟩
        rw [show (listed.setIfInBounds 0 true).getD 8 false = listed.getD 8 false by rw [getD_set hls, if_neg (by omega)]]
        exact hb3⟩
    ·
      refine wpOp_step (o := { dst := some 47, op := Op.call { callee := Callee.value (Operand.func 113), args := #[Operand.tmp 46, Operand.const (Value.int IntKind.i64 0)], argTypes := #[133, 3] }, type := 3, pos := "hall.go:67", after := #[{ on := 0, ground := Ground.data }], guard := none }) rfl ?_
      intro K hK
      have q46 : a.tmps[46]? = some (factV tk tn tl tc tt v) := hS.val 0 46 _ (hd 0 (of_decide_eq_true (by kernel_rfl))) rfl rfl
      go_simp
      refine (HN w hb 0 (by omega) _ hx).mono ?_
      rintro e w' ⟨rfl, hbw⟩
      go_simp
      exact hK _ _ ⟨(hS.put hn 1 47 _ rfl (by rw [hsz0]; omega) (fun u h => by injection h with h; injection h with h; exact h.symm)), hb.trans (hbw.mono hb.size), fun h => by
        rw [getD_set hls, if_neg (by omega)] at h
        obtain ⟨b, hb1, hb2, hb3⟩ := hA h
        refine ⟨b, hb1, by simpa using hb2, ?_⟩
        rw [show (listed.setIfInBounds 1 true).getD 8 false = listed.getD 8 false by rw [getD_set hls, if_neg (by omega)]]
        exact hb3.next hbw⟩
    ·
      refine wpOp_step (o := { dst := some 48, op := Op.load 133 (Operand.tmp 3), type := 133, pos := "hall.go:67", after := #[], guard := none }) rfl ?_
      intro K hK
      have q3 : a.tmps[3]? = some (.pointer (some ⟨fb, 0, none⟩)) := (hS.keep 3 (of_decide_eq_true (by kernel_rfl))).trans h3
      have bx := hF.next hb
      have m0 := bx.cell 0 _ rfl
      have m1 := bx.cell 1 _ rfl
      have m2 := bx.cell 2 _ rfl
      have m3 := bx.cell 3 _ rfl
      have m4 := bx.cell 4 _ rfl
      have m5 := bx.cell 5 _ rfl
      go_simp
      exact hK _ _ ⟨(hS.put hn 2 48 _ rfl (by rw [hsz0]; omega) (fun u h => by injection h with h; injection h with h; exact h.symm)), hb, fun h => by
        rw [getD_set hls, if_neg (by omega)] at h
        obtain ⟨b, hb1, hb2, hb3⟩ := hA h
        refine ⟨b, hb1, by simpa using hb2, ?_⟩
        rw [show (listed.setIfInBounds 2 true).getD 8 false = listed.getD 8 false by rw [getD_set hls, if_neg (by omega)]]
        exact hb3⟩
    ·
      refine wpOp_step (o := { dst := some 49, op := Op.call { callee := Callee.value (Operand.func 113), args := #[Operand.tmp 48, Operand.const (Value.int IntKind.i64 1)], argTypes := #[133, 3] }, type := 3, pos := "hall.go:67", after := #[{ on := 2, ground := Ground.data }, { on := 1, ground := Ground.chain }], guard := none }) rfl ?_
      intro K hK
      have q48 : a.tmps[48]? = some (factV tk tn tl tc tt v) := hS.val 2 48 _ (hd 2 (of_decide_eq_true (by kernel_rfl))) rfl rfl
      go_simp
      refine (HN w hb 1 (by omega) _ hy).mono ?_
      rintro e w' ⟨rfl, hbw⟩
      go_simp
      exact hK _ _ ⟨(hS.put hn 3 49 _ rfl (by rw [hsz0]; omega) (fun u h => by injection h with h; injection h with h; exact h.symm)), hb.trans (hbw.mono hb.size), fun h => by
        rw [getD_set hls, if_neg (by omega)] at h
        obtain ⟨b, hb1, hb2, hb3⟩ := hA h
        refine ⟨b, hb1, by simpa using hb2, ?_⟩
        rw [show (listed.setIfInBounds 3 true).getD 8 false = listed.getD 8 false by rw [getD_set hls, if_neg (by omega)]]
        exact hb3.next hbw⟩
    ·
      refine wpOp_step (o := { dst := some 50, op := Op.load 133 (Operand.tmp 3), type := 133, pos := "hall.go:67", after := #[], guard := none }) rfl ?_
      intro K hK
      have q3 : a.tmps[3]? = some (.pointer (some ⟨fb, 0, none⟩)) := (hS.keep 3 (of_decide_eq_true (by kernel_rfl))).trans h3
      have bx := hF.next hb
      have m0 := bx.cell 0 _ rfl
      have m1 := bx.cell 1 _ rfl
      have m2 := bx.cell 2 _ rfl
      have m3 := bx.cell 3 _ rfl
      have m4 := bx.cell 4 _ rfl
      have m5 := bx.cell 5 _ rfl
      go_simp
      exact hK _ _ ⟨(hS.put hn 4 50 _ rfl (by rw [hsz0]; omega) (fun u h => by injection h with h; injection h with h; exact h.symm)), hb, fun h => by
        rw [getD_set hls, if_neg (by omega)] at h
        obtain ⟨b, hb1, hb2, hb3⟩ := hA h
        refine ⟨b, hb1, by simpa using hb2, ?_⟩
        rw [show (listed.setIfInBounds 4 true).getD 8 false = listed.getD 8 false by rw [getD_set hls, if_neg (by omega)]]
        exact hb3⟩
    ·
      refine wpOp_step (o := { dst := some 51, op := Op.call { callee := Callee.value (Operand.func 113), args := #[Operand.tmp 50, Operand.const (Value.int IntKind.i64 2)], argTypes := #[133, 3] }, type := 3, pos := "hall.go:67", after := #[{ on := 4, ground := Ground.data }, { on := 3, ground := Ground.chain }], guard := none }) rfl ?_
      intro K hK
      have q50 : a.tmps[50]? = some (factV tk tn tl tc tt v) := hS.val 4 50 _ (hd 4 (of_decide_eq_true (by kernel_rfl))) rfl rfl
      go_simp
      refine (HN w hb 2 (by omega) _ hz).mono ?_
      rintro e w' ⟨rfl, hbw⟩
      go_simp
      exact hK _ _ ⟨(hS.put hn 5 51 _ rfl (by rw [hsz0]; omega) (fun u h => by injection h with h; injection h with h; exact h.symm)), hb.trans (hbw.mono hb.size), fun h => by
        rw [getD_set hls, if_neg (by omega)] at h
        obtain ⟨b, hb1, hb2, hb3⟩ := hA h
        refine ⟨b, hb1, by simpa using hb2, ?_⟩
        rw [show (listed.setIfInBounds 5 true).getD 8 false = listed.getD 8 false by rw [getD_set hls, if_neg (by omega)]]
        exact hb3.next hbw⟩
    ·
      refine wpOp_step (o := { dst := some 52, op := Op.build 85 #[(0, Operand.tmp 47), (1, Operand.tmp 49), (2, Operand.tmp 51)], type := 85, pos := "hall.go:67", after := #[{ on := 1, ground := Ground.data }, { on := 3, ground := Ground.data }, { on := 5, ground := Ground.data }], guard := none }) rfl ?_
      intro K hK
      have q47 : a.tmps[47]? = some (.int .i64 x) := hS.val 1 47 _ (hd 1 (of_decide_eq_true (by kernel_rfl))) rfl rfl
      have q49 : a.tmps[49]? = some (.int .i64 y) := hS.val 3 49 _ (hd 3 (of_decide_eq_true (by kernel_rfl))) rfl rfl
      have q51 : a.tmps[51]? = some (.int .i64 z) := hS.val 5 51 _ (hd 5 (of_decide_eq_true (by kernel_rfl))) rfl rfl
      go_simp
      exact hK _ _ ⟨(hS.put hn 6 52 _ rfl (by rw [hsz0]; omega) (fun u h => by injection h with h; injection h with h; exact h.symm)), hb, fun h => by
        rw [getD_set hls, if_neg (by omega)] at h
        obtain ⟨b, hb1, hb2, hb3⟩ := hA h
        refine ⟨b, hb1, by simpa using hb2, ?_⟩
        rw [show (listed.setIfInBounds 6 true).getD 8 false = listed.getD 8 false by rw [getD_set hls, if_neg (by omega)]]
        exact hb3⟩
    ·
      refine wpOp_step (o := { dst := some 5, op := Op.alloc 85, type := 0, pos := "hall.go:67", after := #[], guard := none }) rfl ?_
      intro K hK
      have n8 : listed.getD 8 false = false := by
        cases h : listed.getD 8 false with
        | false => rfl
        | true => rw [hcl 8 7 h (of_decide_eq_true (by kernel_rfl))] at hl; cases hl
      go_simp
      refine hK _ _ ⟨(hS.put hn 7 5 _ rfl (by rw [hsz0]; omega) (fun u h => by injection h with h; cases h)), hb.alloc hb.size _, fun _ => ⟨w.heap.size, hb.size, by simp [hsz.out], ?_⟩⟩
      rw [show (listed.setIfInBounds 7 true).getD 8 false = listed.getD 8 false by rw [getD_set hls, if_neg (by omega)], n8]
      exact Box.fresh w 85 _
    ·
      refine wpOp_step (o := { dst := none, op := Op.store 85 (Operand.tmp 5) (Operand.tmp 52), type := 0, pos := "hall.go:67", after := #[{ on := 7, ground := Ground.data }, { on := 6, ground := Ground.data }, { on := 5, ground := Ground.chain }, { on := 0, ground := Ground.phase }, { on := 1, ground := Ground.phase }, { on := 2, ground := Ground.phase }, { on := 3, ground := Ground.phase }, { on := 4, ground := Ground.phase }, { on := 5, ground := Ground.phase }, { on := 6, ground := Ground.phase }, { on := 7, ground := Ground.phase }], guard := none }) rfl ?_
      intro K hK
      obtain ⟨b, hb1, q5, hb3⟩ := hA (hd 7 (of_decide_eq_true (by kernel_rfl)))
      rw [hl] at hb3
      have hb4 : Box w b 85 #[.int .i64 0, .int .i64 0, .int .i64 0] := hb3
      have q52 : a.tmps[52]? = some (.agg #[.int .i64 x, .int .i64 y, .int .i64 z]) := hS.val 6 52 _ (hd 6 (of_decide_eq_true (by kernel_rfl))) rfl rfl
      have m0 := hb4.cell 0 _ rfl
      have f0 := hb4.frozen 0
      have m1 := hb4.cell 1 _ rfl
      have f1 := hb4.frozen 1
      have m2 := hb4.cell 2 _ rfl
      have f2 := hb4.frozen 2
      have lt := hb4.lt
      go_simp
      refine hK _ _ ⟨hS.skip 8 rfl, ?_, fun _ => ⟨b, hb1, q5, ?_⟩⟩
      · exact (Below.setCell (Below.setCell (Below.setCell hb (by omega) _) (by omega) _) (by omega) _)
      · rw [show (listed.setIfInBounds 8 true).getD 8 false = true by rw [getD_set hls, if_pos rfl]]
        exact (((hb4.set 0 (.int .i64 x)).set 1 (.int .i64 y)).set 2 (.int .i64 z))
  · intro listed a w hall ⟨hS, hb, hA⟩
    obtain ⟨b, hb1, hb2, hb3⟩ := hA (hall 7 (by show 7 < 9; omega))
    rw [hall 8 (by show 8 < 9; omega), if_pos rfl] at hb3
    have he := hS.frame [(46, factV tk tn tl tc tt v), (47, .int .i64 x), (48, factV tk tn tl tc tt v), (49, .int .i64 y), (50, factV tk tn tl tc tt v), (51, .int .i64 z), (52, .agg #[.int .i64 x, .int .i64 y, .int .i64 z]), (5, .pointer (some ⟨b, 0, none⟩))] rfl (by show List.Pairwise _ [46, 47, 48, 49, 50, 51, 52, 5]; decide) (by simp [hsz0]) (by
        intro p hp
        simp only [List.mem_cons, List.not_mem_nil, or_false] at hp
        rcases hp with rfl | rfl | rfl | rfl | rfl | rfl | rfl | rfl
        · exact hS.val 0 46 _ (hall 0 (by show 0 < 9; omega)) rfl rfl
        · exact hS.val 1 47 _ (hall 1 (by show 1 < 9; omega)) rfl rfl
        · exact hS.val 2 48 _ (hall 2 (by show 2 < 9; omega)) rfl rfl
        · exact hS.val 3 49 _ (hall 3 (by show 3 < 9; omega)) rfl rfl
        · exact hS.val 4 50 _ (hall 4 (by show 4 < 9; omega)) rfl rfl
        · exact hS.val 5 51 _ (hall 5 (by show 5 < 9; omega)) rfl rfl
        · exact hS.val 6 52 _ (hall 6 (by show 6 < 9; omega)) rfl rfl
        · exact hb2
      )
    rw [he]
    exact hQ w b hb hb1 hb3
set_option maxHeartbeats 1000000 in
theorem seat_region {Q : Exit → Act → World → Prop} (a0 : Act) (W : World) (hsz0 : a0.tmps.size = 64) (fb : Nat) (h3 : a0.tmps[4]? = some (.pointer (some ⟨fb, 0, none⟩))) (kk : Int) (h2 : a0.tmps[2]? = some (.int .i64 kk)) (tk tn tl tc : Int) (tt : List UInt8) (v : Value) (rest : List T)
    (hF : Box W fb 133 #[.int .i64 tk, .int .i64 tn, .int .i64 tl, .int .i64 tc, .string ⟨tt.toArray⟩, v])
    (HN : ∀ w, Below W.heap.size W w → ∀ i : Nat, i < 3 → ∀ n, nOf rest i = n → Calls Tryz.prog 113 #[factV tk tn tl tc tt v, .int .i64 i] w fun e w' => e = .returned (.int .i64 n) ∧ Below w.heap.size w w')
    (x y z : Int) (hx : nOf rest 0 = x) (hy : nOf rest 1 = y) (hz : nOf rest 2 = z)
    (hQ : ∀ w' b, Below W.heap.size W w' → W.heap.size ≤ b → Box w' b 57 #[.int .i64 x, .int .i64 y, .int .i64 z, .int .i64 kk] → Q .normal { tmps := putAll a0.tmps [(11, factV tk tn tl tc tt v), (12, .int .i64 x), (13, factV tk tn tl tc tt v), (14, .int .i64 y), (15, factV tk tn tl tc tt v), (16, .int .i64 z), (17, .int .i64 kk), (18, .agg #[.int .i64 x, .int .i64 y, .int .i64 z, .int .i64 kk]), (7, .pointer (some ⟨b, 0, none⟩))], defers := a0.defers } w') :
    (Code.region 1 #[{ dst := some 11, op := Op.load 133 (Operand.tmp 4), type := 133, pos := "hall.go:86", after := #[], guard := none }, { dst := some 12, op := Op.call { callee := Callee.value (Operand.func 113), args := #[Operand.tmp 11, Operand.const (Value.int IntKind.i64 0)], argTypes := #[133, 3] }, type := 3, pos := "hall.go:86", after := #[{ on := 0, ground := Ground.data }], guard := none }, { dst := some 13, op := Op.load 133 (Operand.tmp 4), type := 133, pos := "hall.go:86", after := #[], guard := none }, { dst := some 14, op := Op.call { callee := Callee.value (Operand.func 113), args := #[Operand.tmp 13, Operand.const (Value.int IntKind.i64 1)], argTypes := #[133, 3] }, type := 3, pos := "hall.go:86", after := #[{ on := 2, ground := Ground.data }, { on := 1, ground := Ground.chain }], guard := none }, { dst := some 15, op := Op.load 133 (Operand.tmp 4), type := 133, pos := "hall.go:86", after := #[], guard := none }, { dst := some 16, op := Op.call { callee := Callee.value (Operand.func 113), args := #[Operand.tmp 15, Operand.const (Value.int IntKind.i64 2)], argTypes := #[133, 3] }, type := 3, pos := "hall.go:86", after := #[{ on := 4, ground := Ground.data }, { on := 3, ground := Ground.chain }], guard := none }, { dst := some 17, op := Op.move (Operand.tmp 2), type := 3, pos := "hall.go:86", after := #[], guard := none }, { dst := some 18, op := Op.build 57 #[(0, Operand.tmp 12), (1, Operand.tmp 14), (2, Operand.tmp 16), (3, Operand.tmp 17)], type := 57, pos := "hall.go:86", after := #[{ on := 1, ground := Ground.data }, { on := 3, ground := Ground.data }, { on := 5, ground := Ground.data }, { on := 6, ground := Ground.data }], guard := none }, { dst := some 7, op := Op.alloc 57, type := 0, pos := "hall.go:86", after := #[], guard := none }, { dst := none, op := Op.store 57 (Operand.tmp 7) (Operand.tmp 18), type := 0, pos := "hall.go:86", after := #[{ on := 8, ground := Ground.data }, { on := 7, ground := Ground.data }, { on := 5, ground := Ground.chain }, { on := 0, ground := Ground.phase }, { on := 1, ground := Ground.phase }, { on := 2, ground := Ground.phase }, { on := 3, ground := Ground.phase }, { on := 4, ground := Ground.phase }, { on := 5, ground := Ground.phase }, { on := 6, ground := Ground.phase }, { on := 7, ground := Ground.phase }, { on := 8, ground := Ground.phase }], guard := none }] true).wp Tryz.prog Q a0 W := by
  have hn : ([some 11, some 12, some 13, some 14, some 15, some 16, some 17, some 18, some 7, none] : List (Option Nat)).Pairwise (fun x y => x = none ∨ x ≠ y) := of_decide_eq_true (by kernel_rfl)
  refine wp_region_inv mixed (fun listed a w => Slots a0 [some 11, some 12, some 13, some 14, some 15, some 16, some 17, some 18, some 7, none] [some (factV tk tn tl tc tt v), some (.int .i64 x), some (factV tk tn tl tc tt v), some (.int .i64 y), some (factV tk tn tl tc tt v), some (.int .i64 z), some (.int .i64 kk), some (.agg #[.int .i64 x, .int .i64 y, .int .i64 z, .int .i64 kk]), none, none] listed a ∧ Below W.heap.size W w ∧ (listed.getD 8 false = true → ∃ b, W.heap.size ≤ b ∧ a.tmps[7]? = some (.pointer (some ⟨b, 0, none⟩)) ∧ Box w b 57 (if listed.getD 9 false = true then #[.int .i64 x, .int .i64 y, .int .i64 z, .int .i64 kk] else #[.int .i64 0, .int .i64 0, .int .i64 0, .int .i64 0]))) (by kernel_rfl) ?_ ?_ ?_
  · exact ⟨Slots.start _ _ _ _, (Below.refl _ W).drew, fun h => by rw [start_false] at h; cases h⟩
  · intro listed a w i' hsl hilt hl hd hcl ⟨hS, hb, hA⟩
    have hsz : Hid (a.tmps.size = 64) := hS.size.trans hsz0
    have hls : i' < listed.size := by rw [hsl]; exact hilt
    have hcase : i' = 0 ∨ i' = 1 ∨ i' = 2 ∨ i' = 3 ∨ i' = 4 ∨ i' = 5 ∨ i' = 6 ∨ i' = 7 ∨ i' = 8 ∨ i' = 9 := by
      have : i' < 10 := hilt
      omega
    rcases hcase with rfl | rfl | rfl | rfl | rfl | rfl | rfl | rfl | rfl | rfl
    ·
      refine wpOp_step (o := { dst := some 11, op := Op.load 133 (Operand.tmp 4), type := 133, pos := "hall.go:86", after := #[], guard := none }) rfl ?_
      intro K hK
      have q4 : a.tmps[4]? = some (.pointer (some ⟨fb, 0, none⟩)) := (hS.keep 4 (of_decide_eq_true (by kernel_rfl))).trans h3
      have bx := hF.next hb
      have m0 := bx.cell 0 _ rfl
      have m1 := bx.cell 1 _ rfl
      have m2 := bx.cell 2 _ rfl
      have m3 := bx.cell 3 _ rfl
      have m4 := bx.cell 4 _ rfl
      have m5 := bx.cell 5 _ rfl
      go_simp
      exact hK _ _ ⟨(hS.put hn 0 11 _ rfl (by rw [hsz0]; omega) (fun u h => by injection h with h; injection h with h; exact h.symm)), hb, fun h => by
        rw [getD_set hls, if_neg (by omega)] at h
        obtain ⟨b, hb1, hb2, hb3⟩ := hA h
        refine ⟨b, hb1, by simpa using hb2, ?_⟩
        rw [show (listed.setIfInBounds 0 true).getD 9 false = listed.getD 9 false by rw [getD_set hls, if_neg (by omega)]]
        exact hb3⟩
    ·
      refine wpOp_step (o := { dst := some 12, op := Op.call { callee := Callee.value (Operand.func 113), args := #[Operand.tmp 11, Operand.const (Value.int IntKind.i64 0)], argTypes := #[133, 3] }, type := 3, pos := "hall.go:86", after := #[{ on := 0, ground := Ground.data }], guard := none }) rfl ?_
      intro K hK
      have q11 : a.tmps[11]? = some (factV tk tn tl tc tt v) := hS.val 0 11 _ (hd 0 (of_decide_eq_true (by kernel_rfl))) rfl rfl
      go_simp
      refine (HN w hb 0 (by omega) _ hx).mono ?_
      rintro e w' ⟨rfl, hbw⟩
      go_simp
      exact hK _ _ ⟨(hS.put hn 1 12 _ rfl (by rw [hsz0]; omega) (fun u h => by injection h with h; injection h with h; exact h.symm)), hb.trans (hbw.mono hb.size), fun h => by
        rw [getD_set hls, if_neg (by omega)] at h
        obtain ⟨b, hb1, hb2, hb3⟩ := hA h
        refine ⟨b, hb1, by simpa using hb2, ?_⟩
        rw [show (listed.setIfInBounds 1 true).getD 9 false = listed.getD 9 false by rw [getD_set hls, if_neg (by omega)]]
        exact hb3.next hbw⟩
    ·
      refine wpOp_step (o := { dst := some 13, op := Op.load 133 (Operand.tmp 4), type := 133, pos := "hall.go:86", after := #[], guard := none }) rfl ?_
      intro K hK
      have q4 : a.tmps[4]? = some (.pointer (some ⟨fb, 0, none⟩)) := (hS.keep 4 (of_decide_eq_true (by kernel_rfl))).trans h3
      have bx := hF.next hb
      have m0 := bx.cell 0 _ rfl
      have m1 := bx.cell 1 _ rfl
      have m2 := bx.cell 2 _ rfl
      have m3 := bx.cell 3 _ rfl
      have m4 := bx.cell 4 _ rfl
      have m5 := bx.cell 5 _ rfl
      go_simp
      exact hK _ _ ⟨(hS.put hn 2 13 _ rfl (by rw [hsz0]; omega) (fun u h => by injection h with h; injection h with h; exact h.symm)), hb, fun h => by
        rw [getD_set hls, if_neg (by omega)] at h
        obtain ⟨b, hb1, hb2, hb3⟩ := hA h
        refine ⟨b, hb1, by simpa using hb2, ?_⟩
        rw [show (listed.setIfInBounds 2 true).getD 9 false = listed.getD 9 false by rw [getD_set hls, if_neg (by omega)]]
        exact hb3⟩
    ·
      refine wpOp_step (o := { dst := some 14, op := Op.call { callee := Callee.value (Operand.func 113), args := #[Operand.tmp 13, Operand.const (Value.int IntKind.i64 1)], argTypes := #[133, 3] }, type := 3, pos := "hall.go:86", after := #[{ on := 2, ground := Ground.data }, { on := 1, ground := Ground.chain }], guard := none }) rfl ?_
      intro K hK
      have q13 : a.tmps[13]? = some (factV tk tn tl tc tt v) := hS.val 2 13 _ (hd 2 (of_decide_eq_true (by kernel_rfl))) rfl rfl
      go_simp
      refine (HN w hb 1 (by omega) _ hy).mono ?_
      rintro e w' ⟨rfl, hbw⟩
      go_simp
      exact hK _ _ ⟨(hS.put hn 3 14 _ rfl (by rw [hsz0]; omega) (fun u h => by injection h with h; injection h with h; exact h.symm)), hb.trans (hbw.mono hb.size), fun h => by
        rw [getD_set hls, if_neg (by omega)] at h
        obtain ⟨b, hb1, hb2, hb3⟩ := hA h
        refine ⟨b, hb1, by simpa using hb2, ?_⟩
        rw [show (listed.setIfInBounds 3 true).getD 9 false = listed.getD 9 false by rw [getD_set hls, if_neg (by omega)]]
        exact hb3.next hbw⟩
    ·
      refine wpOp_step (o := { dst := some 15, op := Op.load 133 (Operand.tmp 4), type := 133, pos := "hall.go:86", after := #[], guard := none }) rfl ?_
      intro K hK
      have q4 : a.tmps[4]? = some (.pointer (some ⟨fb, 0, none⟩)) := (hS.keep 4 (of_decide_eq_true (by kernel_rfl))).trans h3
      have bx := hF.next hb
      have m0 := bx.cell 0 _ rfl
      have m1 := bx.cell 1 _ rfl
      have m2 := bx.cell 2 _ rfl
      have m3 := bx.cell 3 _ rfl
      have m4 := bx.cell 4 _ rfl
      have m5 := bx.cell 5 _ rfl
      go_simp
      exact hK _ _ ⟨(hS.put hn 4 15 _ rfl (by rw [hsz0]; omega) (fun u h => by injection h with h; injection h with h; exact h.symm)), hb, fun h => by
        rw [getD_set hls, if_neg (by omega)] at h
        obtain ⟨b, hb1, hb2, hb3⟩ := hA h
        refine ⟨b, hb1, by simpa using hb2, ?_⟩
        rw [show (listed.setIfInBounds 4 true).getD 9 false = listed.getD 9 false by rw [getD_set hls, if_neg (by omega)]]
        exact hb3⟩
    ·
      refine wpOp_step (o := { dst := some 16, op := Op.call { callee := Callee.value (Operand.func 113), args := #[Operand.tmp 15, Operand.const (Value.int IntKind.i64 2)], argTypes := #[133, 3] }, type := 3, pos := "hall.go:86", after := #[{ on := 4, ground := Ground.data }, { on := 3, ground := Ground.chain }], guard := none }) rfl ?_
      intro K hK
      have q15 : a.tmps[15]? = some (factV tk tn tl tc tt v) := hS.val 4 15 _ (hd 4 (of_decide_eq_true (by kernel_rfl))) rfl rfl
      go_simp
      refine (HN w hb 2 (by omega) _ hz).mono ?_
      rintro e w' ⟨rfl, hbw⟩
      go_simp
      exact hK _ _ ⟨(hS.put hn 5 16 _ rfl (by rw [hsz0]; omega) (fun u h => by injection h with h; injection h with h; exact h.symm)), hb.trans (hbw.mono hb.size), fun h => by
        rw [getD_set hls, if_neg (by omega)] at h
        obtain ⟨b, hb1, hb2, hb3⟩ := hA h
        refine ⟨b, hb1, by simpa using hb2, ?_⟩
        rw [show (listed.setIfInBounds 5 true).getD 9 false = listed.getD 9 false by rw [getD_set hls, if_neg (by omega)]]
        exact hb3.next hbw⟩
    ·
      refine wpOp_step (o := { dst := some 17, op := Op.move (Operand.tmp 2), type := 3, pos := "hall.go:86", after := #[], guard := none }) rfl ?_
      intro K hK
      have q2 : a.tmps[2]? = some (.int .i64 kk) := (hS.keep 2 (of_decide_eq_true (by kernel_rfl))).trans h2
      go_simp
      exact hK _ _ ⟨(hS.put hn 6 17 _ rfl (by rw [hsz0]; omega) (fun u h => by injection h with h; injection h with h; exact h.symm)), hb, fun h => by
        rw [getD_set hls, if_neg (by omega)] at h
        obtain ⟨b, hb1, hb2, hb3⟩ := hA h
        refine ⟨b, hb1, by simpa using hb2, ?_⟩
        rw [show (listed.setIfInBounds 6 true).getD 9 false = listed.getD 9 false by rw [getD_set hls, if_neg (by omega)]]
        exact hb3⟩
    ·
      refine wpOp_step (o := { dst := some 18, op := Op.build 57 #[(0, Operand.tmp 12), (1, Operand.tmp 14), (2, Operand.tmp 16), (3, Operand.tmp 17)], type := 57, pos := "hall.go:86", after := #[{ on := 1, ground := Ground.data }, { on := 3, ground := Ground.data }, { on := 5, ground := Ground.data }, { on := 6, ground := Ground.data }], guard := none }) rfl ?_
      intro K hK
      have q12 : a.tmps[12]? = some (.int .i64 x) := hS.val 1 12 _ (hd 1 (of_decide_eq_true (by kernel_rfl))) rfl rfl
      have q14 : a.tmps[14]? = some (.int .i64 y) := hS.val 3 14 _ (hd 3 (of_decide_eq_true (by kernel_rfl))) rfl rfl
      have q16 : a.tmps[16]? = some (.int .i64 z) := hS.val 5 16 _ (hd 5 (of_decide_eq_true (by kernel_rfl))) rfl rfl
      have q17 : a.tmps[17]? = some (.int .i64 kk) := hS.val 6 17 _ (hd 6 (of_decide_eq_true (by kernel_rfl))) rfl rfl
      go_simp
      exact hK _ _ ⟨(hS.put hn 7 18 _ rfl (by rw [hsz0]; omega) (fun u h => by injection h with h; injection h with h; exact h.symm)), hb, fun h => by
        rw [getD_set hls, if_neg (by omega)] at h
        obtain ⟨b, hb1, hb2, hb3⟩ := hA h
        refine ⟨b, hb1, by simpa using hb2, ?_⟩
        rw [show (listed.setIfInBounds 7 true).getD 9 false = listed.getD 9 false by rw [getD_set hls, if_neg (by omega)]]
        exact hb3⟩
    ·
      refine wpOp_step (o := { dst := some 7, op := Op.alloc 57, type := 0, pos := "hall.go:86", after := #[], guard := none }) rfl ?_
      intro K hK
      have n9 : listed.getD 9 false = false := by
        cases h : listed.getD 9 false with
        | false => rfl
        | true => rw [hcl 9 8 h (of_decide_eq_true (by kernel_rfl))] at hl; cases hl
      go_simp
      refine hK _ _ ⟨(hS.put hn 8 7 _ rfl (by rw [hsz0]; omega) (fun u h => by injection h with h; cases h)), hb.alloc hb.size _, fun _ => ⟨w.heap.size, hb.size, by simp [hsz.out], ?_⟩⟩
      rw [show (listed.setIfInBounds 8 true).getD 9 false = listed.getD 9 false by rw [getD_set hls, if_neg (by omega)], n9]
      exact Box.fresh w 57 _
    ·
      refine wpOp_step (o := { dst := none, op := Op.store 57 (Operand.tmp 7) (Operand.tmp 18), type := 0, pos := "hall.go:86", after := #[{ on := 8, ground := Ground.data }, { on := 7, ground := Ground.data }, { on := 5, ground := Ground.chain }, { on := 0, ground := Ground.phase }, { on := 1, ground := Ground.phase }, { on := 2, ground := Ground.phase }, { on := 3, ground := Ground.phase }, { on := 4, ground := Ground.phase }, { on := 5, ground := Ground.phase }, { on := 6, ground := Ground.phase }, { on := 7, ground := Ground.phase }, { on := 8, ground := Ground.phase }], guard := none }) rfl ?_
      intro K hK
      obtain ⟨b, hb1, q7, hb3⟩ := hA (hd 8 (of_decide_eq_true (by kernel_rfl)))
      rw [hl] at hb3
      have hb4 : Box w b 57 #[.int .i64 0, .int .i64 0, .int .i64 0, .int .i64 0] := hb3
      have q18 : a.tmps[18]? = some (.agg #[.int .i64 x, .int .i64 y, .int .i64 z, .int .i64 kk]) := hS.val 7 18 _ (hd 7 (of_decide_eq_true (by kernel_rfl))) rfl rfl
      have m0 := hb4.cell 0 _ rfl
      have f0 := hb4.frozen 0
      have m1 := hb4.cell 1 _ rfl
      have f1 := hb4.frozen 1
      have m2 := hb4.cell 2 _ rfl
      have f2 := hb4.frozen 2
      have m3 := hb4.cell 3 _ rfl
      have f3 := hb4.frozen 3
      have lt := hb4.lt
      go_simp
      refine hK _ _ ⟨hS.skip 9 rfl, ?_, fun _ => ⟨b, hb1, q7, ?_⟩⟩
      · exact (Below.setCell (Below.setCell (Below.setCell (Below.setCell hb (by omega) _) (by omega) _) (by omega) _) (by omega) _)
      · rw [show (listed.setIfInBounds 9 true).getD 9 false = true by rw [getD_set hls, if_pos rfl]]
        exact ((((hb4.set 0 (.int .i64 x)).set 1 (.int .i64 y)).set 2 (.int .i64 z)).set 3 (.int .i64 kk))
  · intro listed a w hall ⟨hS, hb, hA⟩
    obtain ⟨b, hb1, hb2, hb3⟩ := hA (hall 8 (by show 8 < 10; omega))
    rw [hall 9 (by show 9 < 10; omega), if_pos rfl] at hb3
    have he := hS.frame [(11, factV tk tn tl tc tt v), (12, .int .i64 x), (13, factV tk tn tl tc tt v), (14, .int .i64 y), (15, factV tk tn tl tc tt v), (16, .int .i64 z), (17, .int .i64 kk), (18, .agg #[.int .i64 x, .int .i64 y, .int .i64 z, .int .i64 kk]), (7, .pointer (some ⟨b, 0, none⟩))] rfl (by show List.Pairwise _ [11, 12, 13, 14, 15, 16, 17, 18, 7]; decide) (by simp [hsz0]) (by
        intro p hp
        simp only [List.mem_cons, List.not_mem_nil, or_false] at hp
        rcases hp with rfl | rfl | rfl | rfl | rfl | rfl | rfl | rfl | rfl
        · exact hS.val 0 11 _ (hall 0 (by show 0 < 10; omega)) rfl rfl
        · exact hS.val 1 12 _ (hall 1 (by show 1 < 10; omega)) rfl rfl
        · exact hS.val 2 13 _ (hall 2 (by show 2 < 10; omega)) rfl rfl
        · exact hS.val 3 14 _ (hall 3 (by show 3 < 10; omega)) rfl rfl
        · exact hS.val 4 15 _ (hall 4 (by show 4 < 10; omega)) rfl rfl
        · exact hS.val 5 16 _ (hall 5 (by show 5 < 10; omega)) rfl rfl
        · exact hS.val 6 17 _ (hall 6 (by show 6 < 10; omega)) rfl rfl
        · exact hS.val 7 18 _ (hall 7 (by show 7 < 10; omega)) rfl rfl
        · exact hb2
      )
    rw [he]
    exact hQ w b hb hb1 hb3
end Go.Proofs.YtpkjhlcolgoknaaGreatDoor.Par
