/- RunAsks' statement with eight calls, guarded and drawn, by an invariant. -/
import Derived.Test.YtdodmbfkcandgaaUSmall
import Derived.Test.YtdodmbfkcandgaaVInv
namespace Go.Proofs.Ytdodmbfkcandgaa.Rnn
set_option linter.unusedVariables false
set_option maxRecDepth 100000
open Go.RowKit Go.Shelf
open Go.Proofs.Ytdodmbfkcandgaa.Ven (Box mixed Slots wp_region_inv getD_set start_false putAll Slots.start slot_of Sl)

/-- An operation whose guard holds. -/
theorem wanted_guard {ops : Array Oper} {tmps : Array Value} {o : Oper} {j d : Nat} {b : Bool} (hg : o.guard = some (j, b)) (hd : (ops[j]?).bind (·.dst) = some d) (hv : tmps[d]? = some (.bool b)) : Region.wanted o (yielded ops tmps) = true := by
  have hy : yielded ops tmps j = some b := by
    unfold yielded
    have e : (ops[j]?.bind fun x => x.dst) = some d := hd
    simp only [e, Option.bind_some, hv]
  unfold Region.wanted
  rw [hg]
  show (yielded ops tmps j == some b) = true
  rw [hy]; simp
set_option maxHeartbeats 16000000 in
theorem asks_region {Q : Exit → Act → World → Prop} (a0 : Act) (W : World) (hsz0 : a0.tmps.size = 97) (vb : Nat) (a1 a2 a3 u1 xa ya : Option Addr) (n1 c1 n2 c2 n3 c3 un uc xn xc yn yc : Nat) (gap rad aa D : Int) (C ok : Bool) (L : List (List Int)) (hL : L.length ≤ 4096)
    (hx : Box W vb 26 #[.slice a1 n1 c1, .int .i64 gap, .int .i64 rad, .slice a2 n2 c2, .slice a3 n3 c3])
    (h4_ : a0.tmps[4]? = some (.pointer (some ⟨vb, 0, none⟩))) (h1_ : a0.tmps[1]? = some (.slice u1 un uc)) (h2_ : a0.tmps[2]? = some (.int .i64 aa)) (h11_ : a0.tmps[11]? = some (.bool ok)) (h13_ : a0.tmps[13]? = some (.bool ok)) (h10_ : a0.tmps[10]? = some (.slice xa xn xc)) (h12_ : a0.tmps[12]? = some (.slice ya yn yc))
    (hc2 : ∀ w, Below W.heap.size W w → Calls Try.prog 11 #[.agg #[.slice a1 n1 c1, .int .i64 gap, .int .i64 rad, .slice a2 n2 c2, .slice a3 n3 c3], .int .i64 aa] w fun e w' => e = .returned (.bool C) ∧ Below w.heap.size w w')
    (hc5 : ∀ w, Below W.heap.size W w → Calls Try.prog 12 #[.agg #[.slice a1 n1 c1, .int .i64 gap, .int .i64 rad, .slice a2 n2 c2, .slice a3 n3 c3], .int .i64 aa] w fun e w' => e = .returned (.bool C) ∧ Below w.heap.size w w')
    (hc11 : ∀ w, Below W.heap.size W w → Calls Try.prog 13 #[.agg #[.slice a1 n1 c1, .int .i64 gap, .int .i64 rad, .slice a2 n2 c2, .slice a3 n3 c3], .slice u1 un uc, .int .i64 aa] w fun e w' => e = .returned (.int .i64 D) ∧ Below w.heap.size w w')
    (hc15 : ∀ w, Below W.heap.size W w → Calls Try.prog 14 #[.agg #[.slice a1 n1 c1, .int .i64 gap, .int .i64 rad, .slice a2 n2 c2, .slice a3 n3 c3], .slice u1 un uc, .int .i64 aa] w fun e w' => e = .returned (.int .i64 D) ∧ Below w.heap.size w w')
    (hc26 : ∀ w, Below W.heap.size W w → Calls Try.prog 15 #[.slice xa xn xc, .slice ya yn yc] w fun e w' => e = .returned (.bool true) ∧ Below w.heap.size w w')
    (hc32 : ∀ w, Below W.heap.size W w → Calls Try.prog 17 #[.agg #[.slice a1 n1 c1, .int .i64 gap, .int .i64 rad, .slice a2 n2 c2, .slice a3 n3 c3], .slice u1 un uc] w fun e w' => ∃ v, e = .returned v ∧ RowsS w' v L ∧ Below w.heap.size w w')
    (hc35 : ∀ w, Below W.heap.size W w → Calls Try.prog 18 #[.agg #[.slice a1 n1 c1, .int .i64 gap, .int .i64 rad, .slice a2 n2 c2, .slice a3 n3 c3], .slice u1 un uc] w fun e w' => ∃ v, e = .returned v ∧ RowsS w' v L ∧ Below w.heap.size w w')
    (hQ : ∀ w' v32 v35, Below W.heap.size W w' → Q .normal { tmps := putAll a0.tmps [(43, .agg #[.slice a1 n1 c1, .int .i64 gap, .int .i64 rad, .slice a2 n2 c2, .slice a3 n3 c3]), (44, .int .i64 aa), (45, .bool C), (46, .agg #[.slice a1 n1 c1, .int .i64 gap, .int .i64 rad, .slice a2 n2 c2, .slice a3 n3 c3]), (47, .int .i64 aa), (48, .bool C), (49, .bool false), (50, .bool false), (51, .agg #[.slice a1 n1 c1, .int .i64 gap, .int .i64 rad, .slice a2 n2 c2, .slice a3 n3 c3]), (52, .slice u1 un uc), (53, .int .i64 aa), (54, .int .i64 D), (55, .agg #[.slice a1 n1 c1, .int .i64 gap, .int .i64 rad, .slice a2 n2 c2, .slice a3 n3 c3]), (56, .slice u1 un uc), (57, .int .i64 aa), (58, .int .i64 D), (59, .bool false), (60, .bool false), (61, .bool false), (62, .bool ok), (63, .bool ok), (64, .bool false), (65, .bool false), (66, .bool false), (67, .slice xa xn xc), (68, .slice ya yn yc), (69, .bool true), (70, .bool false), (71, .bool false), (72, .bool false), (73, .agg #[.slice a1 n1 c1, .int .i64 gap, .int .i64 rad, .slice a2 n2 c2, .slice a3 n3 c3]), (74, .slice u1 un uc), (75, v32), (76, .agg #[.slice a1 n1 c1, .int .i64 gap, .int .i64 rad, .slice a2 n2 c2, .slice a3 n3 c3]), (77, .slice u1 un uc), (78, v35), (79, .bool true), (80, .bool false), (81, .bool false)], defers := a0.defers } w') :
    (Code.region 8 #[{ dst := some 43, op := Op.load 26 (Operand.tmp 4), type := 26, pos := "law.go:43", after := #[], guard := none }, { dst := some 44, op := Op.move (Operand.tmp 2), type := 3, pos := "law.go:43", after := #[], guard := none }, { dst := some 45, op := Op.call { callee := Callee.value (Operand.func 11), args := #[Operand.tmp 43, Operand.tmp 44], argTypes := #[26, 3] }, type := 4, pos := "law.go:43", after := #[{ on := 0, ground := Ground.data }, { on := 1, ground := Ground.data }], guard := none }, { dst := some 46, op := Op.load 26 (Operand.tmp 4), type := 26, pos := "law.go:43", after := #[], guard := none }, { dst := some 47, op := Op.move (Operand.tmp 2), type := 3, pos := "law.go:43", after := #[], guard := none }, { dst := some 48, op := Op.call { callee := Callee.value (Operand.func 12), args := #[Operand.tmp 46, Operand.tmp 47], argTypes := #[26, 3] }, type := 4, pos := "law.go:43", after := #[{ on := 3, ground := Ground.data }, { on := 4, ground := Ground.data }, { on := 2, ground := Ground.chain }], guard := none }, { dst := some 49, op := Op.binOp BinOp.neq 4 (Operand.tmp 45) (Operand.tmp 48) 4, type := 4, pos := "law.go:43", after := #[{ on := 2, ground := Ground.data }, { on := 5, ground := Ground.data }], guard := none }, { dst := some 50, op := Op.move (Operand.tmp 49), type := 4, pos := "law.go:43", after := #[{ on := 6, ground := Ground.data }, { on := 5, ground := Ground.chain }], guard := none }, { dst := some 51, op := Op.load 26 (Operand.tmp 4), type := 26, pos := "law.go:43", after := #[{ on := 7, ground := Ground.guard }], guard := some (7, false) }, { dst := some 52, op := Op.move (Operand.tmp 1), type := 27, pos := "law.go:43", after := #[{ on := 7, ground := Ground.guard }], guard := some (7, false) }, { dst := some 53, op := Op.move (Operand.tmp 2), type := 3, pos := "law.go:43", after := #[{ on := 7, ground := Ground.guard }], guard := some (7, false) }, { dst := some 54, op := Op.call { callee := Callee.value (Operand.func 13), args := #[Operand.tmp 51, Operand.tmp 52, Operand.tmp 53], argTypes := #[26, 27, 3] }, type := 3, pos := "law.go:43", after := #[{ on := 8, ground := Ground.data }, { on := 9, ground := Ground.data }, { on := 10, ground := Ground.data }, { on := 7, ground := Ground.chain }, { on := 7, ground := Ground.guard }], guard := some (7, false) }, { dst := some 55, op := Op.load 26 (Operand.tmp 4), type := 26, pos := "law.go:43", after := #[{ on := 7, ground := Ground.guard }], guard := some (7, false) }, { dst := some 56, op := Op.move (Operand.tmp 1), type := 27, pos := "law.go:43", after := #[{ on := 7, ground := Ground.guard }], guard := some (7, false) }, { dst := some 57, op := Op.move (Operand.tmp 2), type := 3, pos := "law.go:43", after := #[{ on := 7, ground := Ground.guard }], guard := some (7, false) }, { dst := some 58, op := Op.call { callee := Callee.value (Operand.func 14), args := #[Operand.tmp 55, Operand.tmp 56, Operand.tmp 57], argTypes := #[26, 27, 3] }, type := 3, pos := "law.go:43", after := #[{ on := 12, ground := Ground.data }, { on := 13, ground := Ground.data }, { on := 14, ground := Ground.data }, { on := 11, ground := Ground.chain }, { on := 7, ground := Ground.guard }], guard := some (7, false) }, { dst := some 59, op := Op.binOp BinOp.neq 3 (Operand.tmp 54) (Operand.tmp 58) 3, type := 4, pos := "law.go:43", after := #[{ on := 11, ground := Ground.data }, { on := 15, ground := Ground.data }, { on := 7, ground := Ground.guard }], guard := some (7, false) }, { dst := some 60, op := Op.pick (Operand.tmp 50) (Operand.const (Value.bool true)) (Operand.tmp 59), type := 4, pos := "law.go:43", after := #[{ on := 7, ground := Ground.data }, { on := 16, ground := Ground.data }], guard := none }, { dst := some 61, op := Op.move (Operand.tmp 60), type := 4, pos := "law.go:43", after := #[{ on := 17, ground := Ground.data }, { on := 15, ground := Ground.chain }], guard := none }, { dst := some 62, op := Op.move (Operand.tmp 11), type := 4, pos := "law.go:43", after := #[{ on := 18, ground := Ground.guard }], guard := some (18, false) }, { dst := some 63, op := Op.move (Operand.tmp 13), type := 4, pos := "law.go:43", after := #[{ on := 18, ground := Ground.guard }], guard := some (18, false) }, { dst := some 64, op := Op.binOp BinOp.neq 4 (Operand.tmp 62) (Operand.tmp 63) 4, type := 4, pos := "law.go:43", after := #[{ on := 19, ground := Ground.data }, { on := 20, ground := Ground.data }, { on := 18, ground := Ground.guard }], guard := some (18, false) }, { dst := some 65, op := Op.pick (Operand.tmp 61) (Operand.const (Value.bool true)) (Operand.tmp 64), type := 4, pos := "law.go:43", after := #[{ on := 18, ground := Ground.data }, { on := 21, ground := Ground.data }], guard := none }, { dst := some 66, op := Op.move (Operand.tmp 65), type := 4, pos := "law.go:43", after := #[{ on := 22, ground := Ground.data }, { on := 18, ground := Ground.chain }], guard := none }, { dst := some 67, op := Op.move (Operand.tmp 10), type := 23, pos := "law.go:43", after := #[{ on := 23, ground := Ground.guard }], guard := some (23, false) }, { dst := some 68, op := Op.move (Operand.tmp 12), type := 23, pos := "law.go:43", after := #[{ on := 23, ground := Ground.guard }], guard := some (23, false) }, { dst := some 69, op := Op.call { callee := Callee.value (Operand.func 15), args := #[Operand.tmp 67, Operand.tmp 68], argTypes := #[23, 23] }, type := 4, pos := "law.go:43", after := #[{ on := 24, ground := Ground.data }, { on := 25, ground := Ground.data }, { on := 23, ground := Ground.chain }, { on := 23, ground := Ground.guard }], guard := some (23, false) }, { dst := some 70, op := Op.unOp UnOp.not 4 (Operand.tmp 69), type := 4, pos := "law.go:43", after := #[{ on := 26, ground := Ground.data }, { on := 23, ground := Ground.guard }], guard := some (23, false) }, { dst := some 71, op := Op.pick (Operand.tmp 66) (Operand.const (Value.bool true)) (Operand.tmp 70), type := 4, pos := "law.go:43", after := #[{ on := 23, ground := Ground.data }, { on := 27, ground := Ground.data }], guard := none }, { dst := some 72, op := Op.move (Operand.tmp 71), type := 4, pos := "law.go:43", after := #[{ on := 28, ground := Ground.data }, { on := 26, ground := Ground.chain }], guard := none }, { dst := some 73, op := Op.load 26 (Operand.tmp 4), type := 26, pos := "law.go:43", after := #[{ on := 29, ground := Ground.guard }], guard := some (29, false) }, { dst := some 74, op := Op.move (Operand.tmp 1), type := 27, pos := "law.go:43", after := #[{ on := 29, ground := Ground.guard }], guard := some (29, false) }, { dst := some 75, op := Op.call { callee := Callee.value (Operand.func 17), args := #[Operand.tmp 73, Operand.tmp 74], argTypes := #[26, 27] }, type := 36, pos := "law.go:43", after := #[{ on := 30, ground := Ground.data }, { on := 31, ground := Ground.data }, { on := 29, ground := Ground.chain }, { on := 29, ground := Ground.guard }], guard := some (29, false) }, { dst := some 76, op := Op.load 26 (Operand.tmp 4), type := 26, pos := "law.go:43", after := #[{ on := 29, ground := Ground.guard }], guard := some (29, false) }, { dst := some 77, op := Op.move (Operand.tmp 1), type := 27, pos := "law.go:43", after := #[{ on := 29, ground := Ground.guard }], guard := some (29, false) }, { dst := some 78, op := Op.call { callee := Callee.value (Operand.func 18), args := #[Operand.tmp 76, Operand.tmp 77], argTypes := #[26, 27] }, type := 36, pos := "law.go:43", after := #[{ on := 33, ground := Ground.data }, { on := 34, ground := Ground.data }, { on := 32, ground := Ground.chain }, { on := 29, ground := Ground.guard }], guard := some (29, false) }, { dst := some 79, op := Op.call { callee := Callee.value (Operand.func 16), args := #[Operand.tmp 75, Operand.tmp 78], argTypes := #[36, 36] }, type := 4, pos := "law.go:43", after := #[{ on := 32, ground := Ground.data }, { on := 35, ground := Ground.data }, { on := 35, ground := Ground.chain }, { on := 29, ground := Ground.guard }], guard := some (29, false) }, { dst := some 80, op := Op.unOp UnOp.not 4 (Operand.tmp 79), type := 4, pos := "law.go:43", after := #[{ on := 36, ground := Ground.data }, { on := 29, ground := Ground.guard }], guard := some (29, false) }, { dst := some 81, op := Op.pick (Operand.tmp 72) (Operand.const (Value.bool true)) (Operand.tmp 80), type := 4, pos := "law.go:43", after := #[{ on := 29, ground := Ground.data }, { on := 37, ground := Ground.data }], guard := none }] true).wp Try.prog Q a0 W := by
  have hn : ([some 43, some 44, some 45, some 46, some 47, some 48, some 49, some 50, some 51, some 52, some 53, some 54, some 55, some 56, some 57, some 58, some 59, some 60, some 61, some 62, some 63, some 64, some 65, some 66, some 67, some 68, some 69, some 70, some 71, some 72, some 73, some 74, some 75, some 76, some 77, some 78, some 79, some 80, some 81] : List (Option Nat)).Pairwise (fun x y => x = none ∨ x ≠ y) := of_decide_eq_true (by kernel_rfl)
  have dD : decide (D = D) = true := decide_eq_true rfl
  have bD : (D == D) = true := by simp
  have nD : (D != D) = false := by simp
  have dC : decide (C = C) = true := decide_eq_true rfl
  have bC : (C == C) = true := by simp
  have nC : (C != C) = false := by simp
  have dK : decide (ok = ok) = true := decide_eq_true rfl
  have bK : (ok == ok) = true := by simp
  have nK : (ok != ok) = false := by simp
  refine wp_region_inv mixed (fun listed a w => Slots a0 [some 43, some 44, some 45, some 46, some 47, some 48, some 49, some 50, some 51, some 52, some 53, some 54, some 55, some 56, some 57, some 58, some 59, some 60, some 61, some 62, some 63, some 64, some 65, some 66, some 67, some 68, some 69, some 70, some 71, some 72, some 73, some 74, some 75, some 76, some 77, some 78, some 79, some 80, some 81] [some (.agg #[.slice a1 n1 c1, .int .i64 gap, .int .i64 rad, .slice a2 n2 c2, .slice a3 n3 c3]), some (.int .i64 aa), some (.bool C), some (.agg #[.slice a1 n1 c1, .int .i64 gap, .int .i64 rad, .slice a2 n2 c2, .slice a3 n3 c3]), some (.int .i64 aa), some (.bool C), some (.bool false), some (.bool false), some (.agg #[.slice a1 n1 c1, .int .i64 gap, .int .i64 rad, .slice a2 n2 c2, .slice a3 n3 c3]), some (.slice u1 un uc), some (.int .i64 aa), some (.int .i64 D), some (.agg #[.slice a1 n1 c1, .int .i64 gap, .int .i64 rad, .slice a2 n2 c2, .slice a3 n3 c3]), some (.slice u1 un uc), some (.int .i64 aa), some (.int .i64 D), some (.bool false), some (.bool false), some (.bool false), some (.bool ok), some (.bool ok), some (.bool false), some (.bool false), some (.bool false), some (.slice xa xn xc), some (.slice ya yn yc), some (.bool true), some (.bool false), some (.bool false), some (.bool false), some (.agg #[.slice a1 n1 c1, .int .i64 gap, .int .i64 rad, .slice a2 n2 c2, .slice a3 n3 c3]), some (.slice u1 un uc), none, some (.agg #[.slice a1 n1 c1, .int .i64 gap, .int .i64 rad, .slice a2 n2 c2, .slice a3 n3 c3]), some (.slice u1 un uc), none, some (.bool true), some (.bool false), some (.bool false)] listed a ∧ Below W.heap.size W w ∧ (listed.getD 32 false = true → ∃ v, a.tmps[75]? = some v ∧ RowsS w v L) ∧ (listed.getD 35 false = true → ∃ v, a.tmps[78]? = some v ∧ RowsS w v L)) (by kernel_rfl) ?_ ?_ ?_
  · exact ⟨Slots.start _ _ _ _, (Below.refl _ W).drew, fun h => (by rw [start_false] at h; cases h), fun h => (by rw [start_false] at h; cases h)⟩
  · intro listed a w i' hsl hilt hl hd hcl ⟨hS, hb, hA32, hA35⟩
    have hsz : Hid (a.tmps.size = 97) := hS.size.trans hsz0
    have hls : i' < listed.size := by rw [hsl]; exact hilt
    have hcase : i' = 0 ∨ i' = 1 ∨ i' = 2 ∨ i' = 3 ∨ i' = 4 ∨ i' = 5 ∨ i' = 6 ∨ i' = 7 ∨ i' = 8 ∨ i' = 9 ∨ i' = 10 ∨ i' = 11 ∨ i' = 12 ∨ i' = 13 ∨ i' = 14 ∨ i' = 15 ∨ i' = 16 ∨ i' = 17 ∨ i' = 18 ∨ i' = 19 ∨ i' = 20 ∨ i' = 21 ∨ i' = 22 ∨ i' = 23 ∨ i' = 24 ∨ i' = 25 ∨ i' = 26 ∨ i' = 27 ∨ i' = 28 ∨ i' = 29 ∨ i' = 30 ∨ i' = 31 ∨ i' = 32 ∨ i' = 33 ∨ i' = 34 ∨ i' = 35 ∨ i' = 36 ∨ i' = 37 ∨ i' = 38 := by
      have : i' < 39 := hilt
      omega
    rcases hcase with rfl | rfl | rfl | rfl | rfl | rfl | rfl | rfl | rfl | rfl | rfl | rfl | rfl | rfl | rfl | rfl | rfl | rfl | rfl | rfl | rfl | rfl | rfl | rfl | rfl | rfl | rfl | rfl | rfl | rfl | rfl | rfl | rfl | rfl | rfl | rfl | rfl | rfl | rfl
    ·
      refine wpOp_step (o := { dst := some 43, op := Op.load 26 (Operand.tmp 4), type := 26, pos := "law.go:43", after := #[], guard := none }) rfl ?_
      intro K hK
      have q4_ : a.tmps[4]? = some (.pointer (some ⟨vb, 0, none⟩)) := (hS.keep 4 (of_decide_eq_true (by kernel_rfl))).trans h4_
      have m0 := (hx.next hb).cell 0 _ rfl
      have m1 := (hx.next hb).cell 1 _ rfl
      have m2 := (hx.next hb).cell 2 _ rfl
      have m3 := (hx.next hb).cell 3 _ rfl
      have m4 := (hx.next hb).cell 4 _ rfl
      go_simp
      exact hK _ _ ⟨hS.put hn 0 43 _ rfl (by rw [hsz0]; omega) (fun u h => by injection h with h; injection h with h; exact h.symm), hb, fun h => by
        rw [getD_set hls, if_neg (by omega)] at h
        obtain ⟨v, hv1, hv2⟩ := hA32 h
        exact ⟨v, by simpa using hv1, hv2⟩, fun h => by
        rw [getD_set hls, if_neg (by omega)] at h
        obtain ⟨v, hv1, hv2⟩ := hA35 h
        exact ⟨v, by simpa using hv1, hv2⟩⟩
    ·
      refine wpOp_step (o := { dst := some 44, op := Op.move (Operand.tmp 2), type := 3, pos := "law.go:43", after := #[], guard := none }) rfl ?_
      intro K hK
      have q2_ : a.tmps[2]? = some (.int .i64 aa) := (hS.keep 2 (of_decide_eq_true (by kernel_rfl))).trans h2_
      go_simp
      exact hK _ _ ⟨hS.put hn 1 44 _ rfl (by rw [hsz0]; omega) (fun u h => by injection h with h; injection h with h; exact h.symm), hb, fun h => by
        rw [getD_set hls, if_neg (by omega)] at h
        obtain ⟨v, hv1, hv2⟩ := hA32 h
        exact ⟨v, by simpa using hv1, hv2⟩, fun h => by
        rw [getD_set hls, if_neg (by omega)] at h
        obtain ⟨v, hv1, hv2⟩ := hA35 h
        exact ⟨v, by simpa using hv1, hv2⟩⟩
    ·
      refine wpOp_step (o := { dst := some 45, op := Op.call { callee := Callee.value (Operand.func 11), args := #[Operand.tmp 43, Operand.tmp 44], argTypes := #[26, 3] }, type := 4, pos := "law.go:43", after := #[{ on := 0, ground := Ground.data }, { on := 1, ground := Ground.data }], guard := none }) rfl ?_
      intro K hK
      have q43_ : a.tmps[43]? = some (.agg #[.slice a1 n1 c1, .int .i64 gap, .int .i64 rad, .slice a2 n2 c2, .slice a3 n3 c3]) := hS.val 0 43 _ (hd 0 (of_decide_eq_true (by kernel_rfl))) rfl rfl
      have q44_ : a.tmps[44]? = some (.int .i64 aa) := hS.val 1 44 _ (hd 1 (of_decide_eq_true (by kernel_rfl))) rfl rfl
      have hc := hc2 w hb
      go_simp
      go_at_call 11
      refine hc.mono ?_
      rintro e w' ⟨rfl, hb2⟩
      exact hK _ _ ⟨hS.put hn 2 45 _ rfl (by rw [hsz0]; omega) (fun u h => by injection h with h; injection h with h; exact h.symm), hb.trans (hb2.mono hb.size), fun h => by
        rw [getD_set hls, if_neg (by omega)] at h
        obtain ⟨v, hv1, hv2⟩ := hA32 h
        exact ⟨v, by simpa using hv1, hv2.next hb2⟩, fun h => by
        rw [getD_set hls, if_neg (by omega)] at h
        obtain ⟨v, hv1, hv2⟩ := hA35 h
        exact ⟨v, by simpa using hv1, hv2.next hb2⟩⟩
    ·
      refine wpOp_step (o := { dst := some 46, op := Op.load 26 (Operand.tmp 4), type := 26, pos := "law.go:43", after := #[], guard := none }) rfl ?_
      intro K hK
      have q4_ : a.tmps[4]? = some (.pointer (some ⟨vb, 0, none⟩)) := (hS.keep 4 (of_decide_eq_true (by kernel_rfl))).trans h4_
      have m0 := (hx.next hb).cell 0 _ rfl
      have m1 := (hx.next hb).cell 1 _ rfl
      have m2 := (hx.next hb).cell 2 _ rfl
      have m3 := (hx.next hb).cell 3 _ rfl
      have m4 := (hx.next hb).cell 4 _ rfl
      go_simp
      exact hK _ _ ⟨hS.put hn 3 46 _ rfl (by rw [hsz0]; omega) (fun u h => by injection h with h; injection h with h; exact h.symm), hb, fun h => by
        rw [getD_set hls, if_neg (by omega)] at h
        obtain ⟨v, hv1, hv2⟩ := hA32 h
        exact ⟨v, by simpa using hv1, hv2⟩, fun h => by
        rw [getD_set hls, if_neg (by omega)] at h
        obtain ⟨v, hv1, hv2⟩ := hA35 h
        exact ⟨v, by simpa using hv1, hv2⟩⟩
    ·
      refine wpOp_step (o := { dst := some 47, op := Op.move (Operand.tmp 2), type := 3, pos := "law.go:43", after := #[], guard := none }) rfl ?_
      intro K hK
      have q2_ : a.tmps[2]? = some (.int .i64 aa) := (hS.keep 2 (of_decide_eq_true (by kernel_rfl))).trans h2_
      go_simp
      exact hK _ _ ⟨hS.put hn 4 47 _ rfl (by rw [hsz0]; omega) (fun u h => by injection h with h; injection h with h; exact h.symm), hb, fun h => by
        rw [getD_set hls, if_neg (by omega)] at h
        obtain ⟨v, hv1, hv2⟩ := hA32 h
        exact ⟨v, by simpa using hv1, hv2⟩, fun h => by
        rw [getD_set hls, if_neg (by omega)] at h
        obtain ⟨v, hv1, hv2⟩ := hA35 h
        exact ⟨v, by simpa using hv1, hv2⟩⟩
    ·
      refine wpOp_step (o := { dst := some 48, op := Op.call { callee := Callee.value (Operand.func 12), args := #[Operand.tmp 46, Operand.tmp 47], argTypes := #[26, 3] }, type := 4, pos := "law.go:43", after := #[{ on := 3, ground := Ground.data }, { on := 4, ground := Ground.data }, { on := 2, ground := Ground.chain }], guard := none }) rfl ?_
      intro K hK
      have q46_ : a.tmps[46]? = some (.agg #[.slice a1 n1 c1, .int .i64 gap, .int .i64 rad, .slice a2 n2 c2, .slice a3 n3 c3]) := hS.val 3 46 _ (hd 3 (of_decide_eq_true (by kernel_rfl))) rfl rfl
      have q47_ : a.tmps[47]? = some (.int .i64 aa) := hS.val 4 47 _ (hd 4 (of_decide_eq_true (by kernel_rfl))) rfl rfl
      have hc := hc5 w hb
      go_simp
      go_at_call 12
      refine hc.mono ?_
      rintro e w' ⟨rfl, hb2⟩
      exact hK _ _ ⟨hS.put hn 5 48 _ rfl (by rw [hsz0]; omega) (fun u h => by injection h with h; injection h with h; exact h.symm), hb.trans (hb2.mono hb.size), fun h => by
        rw [getD_set hls, if_neg (by omega)] at h
        obtain ⟨v, hv1, hv2⟩ := hA32 h
        exact ⟨v, by simpa using hv1, hv2.next hb2⟩, fun h => by
        rw [getD_set hls, if_neg (by omega)] at h
        obtain ⟨v, hv1, hv2⟩ := hA35 h
        exact ⟨v, by simpa using hv1, hv2.next hb2⟩⟩
    ·
      refine wpOp_step (o := { dst := some 49, op := Op.binOp BinOp.neq 4 (Operand.tmp 45) (Operand.tmp 48) 4, type := 4, pos := "law.go:43", after := #[{ on := 2, ground := Ground.data }, { on := 5, ground := Ground.data }], guard := none }) rfl ?_
      intro K hK
      have q45_ : a.tmps[45]? = some (.bool C) := hS.val 2 45 _ (hd 2 (of_decide_eq_true (by kernel_rfl))) rfl rfl
      have q48_ : a.tmps[48]? = some (.bool C) := hS.val 5 48 _ (hd 5 (of_decide_eq_true (by kernel_rfl))) rfl rfl
      go_simp
      exact hK _ _ ⟨hS.put hn 6 49 _ rfl (by rw [hsz0]; omega) (fun u h => by injection h with h; injection h with h; exact h.symm), hb, fun h => by
        rw [getD_set hls, if_neg (by omega)] at h
        obtain ⟨v, hv1, hv2⟩ := hA32 h
        exact ⟨v, by simpa using hv1, hv2⟩, fun h => by
        rw [getD_set hls, if_neg (by omega)] at h
        obtain ⟨v, hv1, hv2⟩ := hA35 h
        exact ⟨v, by simpa using hv1, hv2⟩⟩
    ·
      refine wpOp_step (o := { dst := some 50, op := Op.move (Operand.tmp 49), type := 4, pos := "law.go:43", after := #[{ on := 6, ground := Ground.data }, { on := 5, ground := Ground.chain }], guard := none }) rfl ?_
      intro K hK
      have q49_ : a.tmps[49]? = some (.bool false) := hS.val 6 49 _ (hd 6 (of_decide_eq_true (by kernel_rfl))) rfl rfl
      go_simp
      exact hK _ _ ⟨hS.put hn 7 50 _ rfl (by rw [hsz0]; omega) (fun u h => by injection h with h; injection h with h; exact h.symm), hb, fun h => by
        rw [getD_set hls, if_neg (by omega)] at h
        obtain ⟨v, hv1, hv2⟩ := hA32 h
        exact ⟨v, by simpa using hv1, hv2⟩, fun h => by
        rw [getD_set hls, if_neg (by omega)] at h
        obtain ⟨v, hv1, hv2⟩ := hA35 h
        exact ⟨v, by simpa using hv1, hv2⟩⟩
    ·
      refine wpOp_step (o := { dst := some 51, op := Op.load 26 (Operand.tmp 4), type := 26, pos := "law.go:43", after := #[{ on := 7, ground := Ground.guard }], guard := some (7, false) }) rfl ?_
      intro K hK
      have q50_ : a.tmps[50]? = some (.bool false) := hS.val 7 50 _ (hd 7 (of_decide_eq_true (by kernel_rfl))) rfl rfl
      have q4_ : a.tmps[4]? = some (.pointer (some ⟨vb, 0, none⟩)) := (hS.keep 4 (of_decide_eq_true (by kernel_rfl))).trans h4_
      rw [if_pos (wanted_guard (j := 7) (d := 50) (b := false) rfl rfl q50_)]
      have m0 := (hx.next hb).cell 0 _ rfl
      have m1 := (hx.next hb).cell 1 _ rfl
      have m2 := (hx.next hb).cell 2 _ rfl
      have m3 := (hx.next hb).cell 3 _ rfl
      have m4 := (hx.next hb).cell 4 _ rfl
      go_simp
      exact hK _ _ ⟨hS.put hn 8 51 _ rfl (by rw [hsz0]; omega) (fun u h => by injection h with h; injection h with h; exact h.symm), hb, fun h => by
        rw [getD_set hls, if_neg (by omega)] at h
        obtain ⟨v, hv1, hv2⟩ := hA32 h
        exact ⟨v, by simpa using hv1, hv2⟩, fun h => by
        rw [getD_set hls, if_neg (by omega)] at h
        obtain ⟨v, hv1, hv2⟩ := hA35 h
        exact ⟨v, by simpa using hv1, hv2⟩⟩
    ·
      refine wpOp_step (o := { dst := some 52, op := Op.move (Operand.tmp 1), type := 27, pos := "law.go:43", after := #[{ on := 7, ground := Ground.guard }], guard := some (7, false) }) rfl ?_
      intro K hK
      have q50_ : a.tmps[50]? = some (.bool false) := hS.val 7 50 _ (hd 7 (of_decide_eq_true (by kernel_rfl))) rfl rfl
      have q1_ : a.tmps[1]? = some (.slice u1 un uc) := (hS.keep 1 (of_decide_eq_true (by kernel_rfl))).trans h1_
      rw [if_pos (wanted_guard (j := 7) (d := 50) (b := false) rfl rfl q50_)]
      go_simp
      exact hK _ _ ⟨hS.put hn 9 52 _ rfl (by rw [hsz0]; omega) (fun u h => by injection h with h; injection h with h; exact h.symm), hb, fun h => by
        rw [getD_set hls, if_neg (by omega)] at h
        obtain ⟨v, hv1, hv2⟩ := hA32 h
        exact ⟨v, by simpa using hv1, hv2⟩, fun h => by
        rw [getD_set hls, if_neg (by omega)] at h
        obtain ⟨v, hv1, hv2⟩ := hA35 h
        exact ⟨v, by simpa using hv1, hv2⟩⟩
    ·
      refine wpOp_step (o := { dst := some 53, op := Op.move (Operand.tmp 2), type := 3, pos := "law.go:43", after := #[{ on := 7, ground := Ground.guard }], guard := some (7, false) }) rfl ?_
      intro K hK
      have q50_ : a.tmps[50]? = some (.bool false) := hS.val 7 50 _ (hd 7 (of_decide_eq_true (by kernel_rfl))) rfl rfl
      have q2_ : a.tmps[2]? = some (.int .i64 aa) := (hS.keep 2 (of_decide_eq_true (by kernel_rfl))).trans h2_
      rw [if_pos (wanted_guard (j := 7) (d := 50) (b := false) rfl rfl q50_)]
      go_simp
      exact hK _ _ ⟨hS.put hn 10 53 _ rfl (by rw [hsz0]; omega) (fun u h => by injection h with h; injection h with h; exact h.symm), hb, fun h => by
        rw [getD_set hls, if_neg (by omega)] at h
        obtain ⟨v, hv1, hv2⟩ := hA32 h
        exact ⟨v, by simpa using hv1, hv2⟩, fun h => by
        rw [getD_set hls, if_neg (by omega)] at h
        obtain ⟨v, hv1, hv2⟩ := hA35 h
        exact ⟨v, by simpa using hv1, hv2⟩⟩
    ·
      refine wpOp_step (o := { dst := some 54, op := Op.call { callee := Callee.value (Operand.func 13), args := #[Operand.tmp 51, Operand.tmp 52, Operand.tmp 53], argTypes := #[26, 27, 3] }, type := 3, pos := "law.go:43", after := #[{ on := 8, ground := Ground.data }, { on := 9, ground := Ground.data }, { on := 10, ground := Ground.data }, { on := 7, ground := Ground.chain }, { on := 7, ground := Ground.guard }], guard := some (7, false) }) rfl ?_
      intro K hK
      have q50_ : a.tmps[50]? = some (.bool false) := hS.val 7 50 _ (hd 7 (of_decide_eq_true (by kernel_rfl))) rfl rfl
      have q51_ : a.tmps[51]? = some (.agg #[.slice a1 n1 c1, .int .i64 gap, .int .i64 rad, .slice a2 n2 c2, .slice a3 n3 c3]) := hS.val 8 51 _ (hd 8 (of_decide_eq_true (by kernel_rfl))) rfl rfl
      have q52_ : a.tmps[52]? = some (.slice u1 un uc) := hS.val 9 52 _ (hd 9 (of_decide_eq_true (by kernel_rfl))) rfl rfl
      have q53_ : a.tmps[53]? = some (.int .i64 aa) := hS.val 10 53 _ (hd 10 (of_decide_eq_true (by kernel_rfl))) rfl rfl
      rw [if_pos (wanted_guard (j := 7) (d := 50) (b := false) rfl rfl q50_)]
      have hc := hc11 w hb
      go_simp
      go_at_call 13
      refine hc.mono ?_
      rintro e w' ⟨rfl, hb2⟩
      exact hK _ _ ⟨hS.put hn 11 54 _ rfl (by rw [hsz0]; omega) (fun u h => by injection h with h; injection h with h; exact h.symm), hb.trans (hb2.mono hb.size), fun h => by
        rw [getD_set hls, if_neg (by omega)] at h
        obtain ⟨v, hv1, hv2⟩ := hA32 h
        exact ⟨v, by simpa using hv1, hv2.next hb2⟩, fun h => by
        rw [getD_set hls, if_neg (by omega)] at h
        obtain ⟨v, hv1, hv2⟩ := hA35 h
        exact ⟨v, by simpa using hv1, hv2.next hb2⟩⟩
    ·
      refine wpOp_step (o := { dst := some 55, op := Op.load 26 (Operand.tmp 4), type := 26, pos := "law.go:43", after := #[{ on := 7, ground := Ground.guard }], guard := some (7, false) }) rfl ?_
      intro K hK
      have q50_ : a.tmps[50]? = some (.bool false) := hS.val 7 50 _ (hd 7 (of_decide_eq_true (by kernel_rfl))) rfl rfl
      have q4_ : a.tmps[4]? = some (.pointer (some ⟨vb, 0, none⟩)) := (hS.keep 4 (of_decide_eq_true (by kernel_rfl))).trans h4_
      rw [if_pos (wanted_guard (j := 7) (d := 50) (b := false) rfl rfl q50_)]
      have m0 := (hx.next hb).cell 0 _ rfl
      have m1 := (hx.next hb).cell 1 _ rfl
      have m2 := (hx.next hb).cell 2 _ rfl
      have m3 := (hx.next hb).cell 3 _ rfl
      have m4 := (hx.next hb).cell 4 _ rfl
      go_simp
      exact hK _ _ ⟨hS.put hn 12 55 _ rfl (by rw [hsz0]; omega) (fun u h => by injection h with h; injection h with h; exact h.symm), hb, fun h => by
        rw [getD_set hls, if_neg (by omega)] at h
        obtain ⟨v, hv1, hv2⟩ := hA32 h
        exact ⟨v, by simpa using hv1, hv2⟩, fun h => by
        rw [getD_set hls, if_neg (by omega)] at h
        obtain ⟨v, hv1, hv2⟩ := hA35 h
        exact ⟨v, by simpa using hv1, hv2⟩⟩
    ·
      refine wpOp_step (o := { dst := some 56, op := Op.move (Operand.tmp 1), type := 27, pos := "law.go:43", after := #[{ on := 7, ground := Ground.guard }], guard := some (7, false) }) rfl ?_
      intro K hK
      have q50_ : a.tmps[50]? = some (.bool false) := hS.val 7 50 _ (hd 7 (of_decide_eq_true (by kernel_rfl))) rfl rfl
      have q1_ : a.tmps[1]? = some (.slice u1 un uc) := (hS.keep 1 (of_decide_eq_true (by kernel_rfl))).trans h1_
      rw [if_pos (wanted_guard (j := 7) (d := 50) (b := false) rfl rfl q50_)]
      go_simp
      exact hK _ _ ⟨hS.put hn 13 56 _ rfl (by rw [hsz0]; omega) (fun u h => by injection h with h; injection h with h; exact h.symm), hb, fun h => by
        rw [getD_set hls, if_neg (by omega)] at h
        obtain ⟨v, hv1, hv2⟩ := hA32 h
        exact ⟨v, by simpa using hv1, hv2⟩, fun h => by
        rw [getD_set hls, if_neg (by omega)] at h
        obtain ⟨v, hv1, hv2⟩ := hA35 h
        exact ⟨v, by simpa using hv1, hv2⟩⟩
    ·
      refine wpOp_step (o := { dst := some 57, op := Op.move (Operand.tmp 2), type := 3, pos := "law.go:43", after := #[{ on := 7, ground := Ground.guard }], guard := some (7, false) }) rfl ?_
      intro K hK
      have q50_ : a.tmps[50]? = some (.bool false) := hS.val 7 50 _ (hd 7 (of_decide_eq_true (by kernel_rfl))) rfl rfl
      have q2_ : a.tmps[2]? = some (.int .i64 aa) := (hS.keep 2 (of_decide_eq_true (by kernel_rfl))).trans h2_
      rw [if_pos (wanted_guard (j := 7) (d := 50) (b := false) rfl rfl q50_)]
      go_simp
      exact hK _ _ ⟨hS.put hn 14 57 _ rfl (by rw [hsz0]; omega) (fun u h => by injection h with h; injection h with h; exact h.symm), hb, fun h => by
        rw [getD_set hls, if_neg (by omega)] at h
        obtain ⟨v, hv1, hv2⟩ := hA32 h
        exact ⟨v, by simpa using hv1, hv2⟩, fun h => by
        rw [getD_set hls, if_neg (by omega)] at h
        obtain ⟨v, hv1, hv2⟩ := hA35 h
        exact ⟨v, by simpa using hv1, hv2⟩⟩
    ·
      refine wpOp_step (o := { dst := some 58, op := Op.call { callee := Callee.value (Operand.func 14), args := #[Operand.tmp 55, Operand.tmp 56, Operand.tmp 57], argTypes := #[26, 27, 3] }, type := 3, pos := "law.go:43", after := #[{ on := 12, ground := Ground.data }, { on := 13, ground := Ground.data }, { on := 14, ground := Ground.data }, { on := 11, ground := Ground.chain }, { on := 7, ground := Ground.guard }], guard := some (7, false) }) rfl ?_
      intro K hK
      have q50_ : a.tmps[50]? = some (.bool false) := hS.val 7 50 _ (hd 7 (of_decide_eq_true (by kernel_rfl))) rfl rfl
      have q55_ : a.tmps[55]? = some (.agg #[.slice a1 n1 c1, .int .i64 gap, .int .i64 rad, .slice a2 n2 c2, .slice a3 n3 c3]) := hS.val 12 55 _ (hd 12 (of_decide_eq_true (by kernel_rfl))) rfl rfl
      have q56_ : a.tmps[56]? = some (.slice u1 un uc) := hS.val 13 56 _ (hd 13 (of_decide_eq_true (by kernel_rfl))) rfl rfl
      have q57_ : a.tmps[57]? = some (.int .i64 aa) := hS.val 14 57 _ (hd 14 (of_decide_eq_true (by kernel_rfl))) rfl rfl
      rw [if_pos (wanted_guard (j := 7) (d := 50) (b := false) rfl rfl q50_)]
      have hc := hc15 w hb
      go_simp
      go_at_call 14
      refine hc.mono ?_
      rintro e w' ⟨rfl, hb2⟩
      exact hK _ _ ⟨hS.put hn 15 58 _ rfl (by rw [hsz0]; omega) (fun u h => by injection h with h; injection h with h; exact h.symm), hb.trans (hb2.mono hb.size), fun h => by
        rw [getD_set hls, if_neg (by omega)] at h
        obtain ⟨v, hv1, hv2⟩ := hA32 h
        exact ⟨v, by simpa using hv1, hv2.next hb2⟩, fun h => by
        rw [getD_set hls, if_neg (by omega)] at h
        obtain ⟨v, hv1, hv2⟩ := hA35 h
        exact ⟨v, by simpa using hv1, hv2.next hb2⟩⟩
    ·
      refine wpOp_step (o := { dst := some 59, op := Op.binOp BinOp.neq 3 (Operand.tmp 54) (Operand.tmp 58) 3, type := 4, pos := "law.go:43", after := #[{ on := 11, ground := Ground.data }, { on := 15, ground := Ground.data }, { on := 7, ground := Ground.guard }], guard := some (7, false) }) rfl ?_
      intro K hK
      have q50_ : a.tmps[50]? = some (.bool false) := hS.val 7 50 _ (hd 7 (of_decide_eq_true (by kernel_rfl))) rfl rfl
      have q54_ : a.tmps[54]? = some (.int .i64 D) := hS.val 11 54 _ (hd 11 (of_decide_eq_true (by kernel_rfl))) rfl rfl
      have q58_ : a.tmps[58]? = some (.int .i64 D) := hS.val 15 58 _ (hd 15 (of_decide_eq_true (by kernel_rfl))) rfl rfl
      rw [if_pos (wanted_guard (j := 7) (d := 50) (b := false) rfl rfl q50_)]
      go_simp
      exact hK _ _ ⟨hS.put hn 16 59 _ rfl (by rw [hsz0]; omega) (fun u h => by injection h with h; injection h with h; exact h.symm), hb, fun h => by
        rw [getD_set hls, if_neg (by omega)] at h
        obtain ⟨v, hv1, hv2⟩ := hA32 h
        exact ⟨v, by simpa using hv1, hv2⟩, fun h => by
        rw [getD_set hls, if_neg (by omega)] at h
        obtain ⟨v, hv1, hv2⟩ := hA35 h
        exact ⟨v, by simpa using hv1, hv2⟩⟩
    ·
      refine wpOp_step (o := { dst := some 60, op := Op.pick (Operand.tmp 50) (Operand.const (Value.bool true)) (Operand.tmp 59), type := 4, pos := "law.go:43", after := #[{ on := 7, ground := Ground.data }, { on := 16, ground := Ground.data }], guard := none }) rfl ?_
      intro K hK
      have q50_ : a.tmps[50]? = some (.bool false) := hS.val 7 50 _ (hd 7 (of_decide_eq_true (by kernel_rfl))) rfl rfl
      have q59_ : a.tmps[59]? = some (.bool false) := hS.val 16 59 _ (hd 16 (of_decide_eq_true (by kernel_rfl))) rfl rfl
      go_simp
      exact hK _ _ ⟨hS.put hn 17 60 _ rfl (by rw [hsz0]; omega) (fun u h => by injection h with h; injection h with h; exact h.symm), hb, fun h => by
        rw [getD_set hls, if_neg (by omega)] at h
        obtain ⟨v, hv1, hv2⟩ := hA32 h
        exact ⟨v, by simpa using hv1, hv2⟩, fun h => by
        rw [getD_set hls, if_neg (by omega)] at h
        obtain ⟨v, hv1, hv2⟩ := hA35 h
        exact ⟨v, by simpa using hv1, hv2⟩⟩
    ·
      refine wpOp_step (o := { dst := some 61, op := Op.move (Operand.tmp 60), type := 4, pos := "law.go:43", after := #[{ on := 17, ground := Ground.data }, { on := 15, ground := Ground.chain }], guard := none }) rfl ?_
      intro K hK
      have q60_ : a.tmps[60]? = some (.bool false) := hS.val 17 60 _ (hd 17 (of_decide_eq_true (by kernel_rfl))) rfl rfl
      go_simp
      exact hK _ _ ⟨hS.put hn 18 61 _ rfl (by rw [hsz0]; omega) (fun u h => by injection h with h; injection h with h; exact h.symm), hb, fun h => by
        rw [getD_set hls, if_neg (by omega)] at h
        obtain ⟨v, hv1, hv2⟩ := hA32 h
        exact ⟨v, by simpa using hv1, hv2⟩, fun h => by
        rw [getD_set hls, if_neg (by omega)] at h
        obtain ⟨v, hv1, hv2⟩ := hA35 h
        exact ⟨v, by simpa using hv1, hv2⟩⟩
    ·
      refine wpOp_step (o := { dst := some 62, op := Op.move (Operand.tmp 11), type := 4, pos := "law.go:43", after := #[{ on := 18, ground := Ground.guard }], guard := some (18, false) }) rfl ?_
      intro K hK
      have q61_ : a.tmps[61]? = some (.bool false) := hS.val 18 61 _ (hd 18 (of_decide_eq_true (by kernel_rfl))) rfl rfl
      have q11_ : a.tmps[11]? = some (.bool ok) := (hS.keep 11 (of_decide_eq_true (by kernel_rfl))).trans h11_
      rw [if_pos (wanted_guard (j := 18) (d := 61) (b := false) rfl rfl q61_)]
      go_simp
      exact hK _ _ ⟨hS.put hn 19 62 _ rfl (by rw [hsz0]; omega) (fun u h => by injection h with h; injection h with h; exact h.symm), hb, fun h => by
        rw [getD_set hls, if_neg (by omega)] at h
        obtain ⟨v, hv1, hv2⟩ := hA32 h
        exact ⟨v, by simpa using hv1, hv2⟩, fun h => by
        rw [getD_set hls, if_neg (by omega)] at h
        obtain ⟨v, hv1, hv2⟩ := hA35 h
        exact ⟨v, by simpa using hv1, hv2⟩⟩
    ·
      refine wpOp_step (o := { dst := some 63, op := Op.move (Operand.tmp 13), type := 4, pos := "law.go:43", after := #[{ on := 18, ground := Ground.guard }], guard := some (18, false) }) rfl ?_
      intro K hK
      have q61_ : a.tmps[61]? = some (.bool false) := hS.val 18 61 _ (hd 18 (of_decide_eq_true (by kernel_rfl))) rfl rfl
      have q13_ : a.tmps[13]? = some (.bool ok) := (hS.keep 13 (of_decide_eq_true (by kernel_rfl))).trans h13_
      rw [if_pos (wanted_guard (j := 18) (d := 61) (b := false) rfl rfl q61_)]
      go_simp
      exact hK _ _ ⟨hS.put hn 20 63 _ rfl (by rw [hsz0]; omega) (fun u h => by injection h with h; injection h with h; exact h.symm), hb, fun h => by
        rw [getD_set hls, if_neg (by omega)] at h
        obtain ⟨v, hv1, hv2⟩ := hA32 h
        exact ⟨v, by simpa using hv1, hv2⟩, fun h => by
        rw [getD_set hls, if_neg (by omega)] at h
        obtain ⟨v, hv1, hv2⟩ := hA35 h
        exact ⟨v, by simpa using hv1, hv2⟩⟩
    ·
      refine wpOp_step (o := { dst := some 64, op := Op.binOp BinOp.neq 4 (Operand.tmp 62) (Operand.tmp 63) 4, type := 4, pos := "law.go:43", after := #[{ on := 19, ground := Ground.data }, { on := 20, ground := Ground.data }, { on := 18, ground := Ground.guard }], guard := some (18, false) }) rfl ?_
      intro K hK
      have q61_ : a.tmps[61]? = some (.bool false) := hS.val 18 61 _ (hd 18 (of_decide_eq_true (by kernel_rfl))) rfl rfl
      have q62_ : a.tmps[62]? = some (.bool ok) := hS.val 19 62 _ (hd 19 (of_decide_eq_true (by kernel_rfl))) rfl rfl
      have q63_ : a.tmps[63]? = some (.bool ok) := hS.val 20 63 _ (hd 20 (of_decide_eq_true (by kernel_rfl))) rfl rfl
      rw [if_pos (wanted_guard (j := 18) (d := 61) (b := false) rfl rfl q61_)]
      go_simp
      exact hK _ _ ⟨hS.put hn 21 64 _ rfl (by rw [hsz0]; omega) (fun u h => by injection h with h; injection h with h; exact h.symm), hb, fun h => by
        rw [getD_set hls, if_neg (by omega)] at h
        obtain ⟨v, hv1, hv2⟩ := hA32 h
        exact ⟨v, by simpa using hv1, hv2⟩, fun h => by
        rw [getD_set hls, if_neg (by omega)] at h
        obtain ⟨v, hv1, hv2⟩ := hA35 h
        exact ⟨v, by simpa using hv1, hv2⟩⟩
    ·
      refine wpOp_step (o := { dst := some 65, op := Op.pick (Operand.tmp 61) (Operand.const (Value.bool true)) (Operand.tmp 64), type := 4, pos := "law.go:43", after := #[{ on := 18, ground := Ground.data }, { on := 21, ground := Ground.data }], guard := none }) rfl ?_
      intro K hK
      have q61_ : a.tmps[61]? = some (.bool false) := hS.val 18 61 _ (hd 18 (of_decide_eq_true (by kernel_rfl))) rfl rfl
      have q64_ : a.tmps[64]? = some (.bool false) := hS.val 21 64 _ (hd 21 (of_decide_eq_true (by kernel_rfl))) rfl rfl
      go_simp
      exact hK _ _ ⟨hS.put hn 22 65 _ rfl (by rw [hsz0]; omega) (fun u h => by injection h with h; injection h with h; exact h.symm), hb, fun h => by
        rw [getD_set hls, if_neg (by omega)] at h
        obtain ⟨v, hv1, hv2⟩ := hA32 h
        exact ⟨v, by simpa using hv1, hv2⟩, fun h => by
        rw [getD_set hls, if_neg (by omega)] at h
        obtain ⟨v, hv1, hv2⟩ := hA35 h
        exact ⟨v, by simpa using hv1, hv2⟩⟩
    ·
      refine wpOp_step (o := { dst := some 66, op := Op.move (Operand.tmp 65), type := 4, pos := "law.go:43", after := #[{ on := 22, ground := Ground.data }, { on := 18, ground := Ground.chain }], guard := none }) rfl ?_
      intro K hK
      have q65_ : a.tmps[65]? = some (.bool false) := hS.val 22 65 _ (hd 22 (of_decide_eq_true (by kernel_rfl))) rfl rfl
      go_simp
      exact hK _ _ ⟨hS.put hn 23 66 _ rfl (by rw [hsz0]; omega) (fun u h => by injection h with h; injection h with h; exact h.symm), hb, fun h => by
        rw [getD_set hls, if_neg (by omega)] at h
        obtain ⟨v, hv1, hv2⟩ := hA32 h
        exact ⟨v, by simpa using hv1, hv2⟩, fun h => by
        rw [getD_set hls, if_neg (by omega)] at h
        obtain ⟨v, hv1, hv2⟩ := hA35 h
        exact ⟨v, by simpa using hv1, hv2⟩⟩
    ·
      refine wpOp_step (o := { dst := some 67, op := Op.move (Operand.tmp 10), type := 23, pos := "law.go:43", after := #[{ on := 23, ground := Ground.guard }], guard := some (23, false) }) rfl ?_
      intro K hK
      have q66_ : a.tmps[66]? = some (.bool false) := hS.val 23 66 _ (hd 23 (of_decide_eq_true (by kernel_rfl))) rfl rfl
      have q10_ : a.tmps[10]? = some (.slice xa xn xc) := (hS.keep 10 (of_decide_eq_true (by kernel_rfl))).trans h10_
      rw [if_pos (wanted_guard (j := 23) (d := 66) (b := false) rfl rfl q66_)]
      go_simp
      exact hK _ _ ⟨hS.put hn 24 67 _ rfl (by rw [hsz0]; omega) (fun u h => by injection h with h; injection h with h; exact h.symm), hb, fun h => by
        rw [getD_set hls, if_neg (by omega)] at h
        obtain ⟨v, hv1, hv2⟩ := hA32 h
        exact ⟨v, by simpa using hv1, hv2⟩, fun h => by
        rw [getD_set hls, if_neg (by omega)] at h
        obtain ⟨v, hv1, hv2⟩ := hA35 h
        exact ⟨v, by simpa using hv1, hv2⟩⟩
    ·
      refine wpOp_step (o := { dst := some 68, op := Op.move (Operand.tmp 12), type := 23, pos := "law.go:43", after := #[{ on := 23, ground := Ground.guard }], guard := some (23, false) }) rfl ?_
      intro K hK
      have q66_ : a.tmps[66]? = some (.bool false) := hS.val 23 66 _ (hd 23 (of_decide_eq_true (by kernel_rfl))) rfl rfl
      have q12_ : a.tmps[12]? = some (.slice ya yn yc) := (hS.keep 12 (of_decide_eq_true (by kernel_rfl))).trans h12_
      rw [if_pos (wanted_guard (j := 23) (d := 66) (b := false) rfl rfl q66_)]
      go_simp
      exact hK _ _ ⟨hS.put hn 25 68 _ rfl (by rw [hsz0]; omega) (fun u h => by injection h with h; injection h with h; exact h.symm), hb, fun h => by
        rw [getD_set hls, if_neg (by omega)] at h
        obtain ⟨v, hv1, hv2⟩ := hA32 h
        exact ⟨v, by simpa using hv1, hv2⟩, fun h => by
        rw [getD_set hls, if_neg (by omega)] at h
        obtain ⟨v, hv1, hv2⟩ := hA35 h
        exact ⟨v, by simpa using hv1, hv2⟩⟩
    ·
      refine wpOp_step (o := { dst := some 69, op := Op.call { callee := Callee.value (Operand.func 15), args := #[Operand.tmp 67, Operand.tmp 68], argTypes := #[23, 23] }, type := 4, pos := "law.go:43", after := #[{ on := 24, ground := Ground.data }, { on := 25, ground := Ground.data }, { on := 23, ground := Ground.chain }, { on := 23, ground := Ground.guard }], guard := some (23, false) }) rfl ?_
      intro K hK
      have q66_ : a.tmps[66]? = some (.bool false) := hS.val 23 66 _ (hd 23 (of_decide_eq_true (by kernel_rfl))) rfl rfl
      have q67_ : a.tmps[67]? = some (.slice xa xn xc) := hS.val 24 67 _ (hd 24 (of_decide_eq_true (by kernel_rfl))) rfl rfl
      have q68_ : a.tmps[68]? = some (.slice ya yn yc) := hS.val 25 68 _ (hd 25 (of_decide_eq_true (by kernel_rfl))) rfl rfl
      rw [if_pos (wanted_guard (j := 23) (d := 66) (b := false) rfl rfl q66_)]
      have hc := hc26 w hb
      go_simp
      go_at_call 15
      refine hc.mono ?_
      rintro e w' ⟨rfl, hb2⟩
      exact hK _ _ ⟨hS.put hn 26 69 _ rfl (by rw [hsz0]; omega) (fun u h => by injection h with h; injection h with h; exact h.symm), hb.trans (hb2.mono hb.size), fun h => by
        rw [getD_set hls, if_neg (by omega)] at h
        obtain ⟨v, hv1, hv2⟩ := hA32 h
        exact ⟨v, by simpa using hv1, hv2.next hb2⟩, fun h => by
        rw [getD_set hls, if_neg (by omega)] at h
        obtain ⟨v, hv1, hv2⟩ := hA35 h
        exact ⟨v, by simpa using hv1, hv2.next hb2⟩⟩
    ·
      refine wpOp_step (o := { dst := some 70, op := Op.unOp UnOp.not 4 (Operand.tmp 69), type := 4, pos := "law.go:43", after := #[{ on := 26, ground := Ground.data }, { on := 23, ground := Ground.guard }], guard := some (23, false) }) rfl ?_
      intro K hK
      have q66_ : a.tmps[66]? = some (.bool false) := hS.val 23 66 _ (hd 23 (of_decide_eq_true (by kernel_rfl))) rfl rfl
      have q69_ : a.tmps[69]? = some (.bool true) := hS.val 26 69 _ (hd 26 (of_decide_eq_true (by kernel_rfl))) rfl rfl
      rw [if_pos (wanted_guard (j := 23) (d := 66) (b := false) rfl rfl q66_)]
      go_simp
      exact hK _ _ ⟨hS.put hn 27 70 _ rfl (by rw [hsz0]; omega) (fun u h => by injection h with h; injection h with h; exact h.symm), hb, fun h => by
        rw [getD_set hls, if_neg (by omega)] at h
        obtain ⟨v, hv1, hv2⟩ := hA32 h
        exact ⟨v, by simpa using hv1, hv2⟩, fun h => by
        rw [getD_set hls, if_neg (by omega)] at h
        obtain ⟨v, hv1, hv2⟩ := hA35 h
        exact ⟨v, by simpa using hv1, hv2⟩⟩
    ·
      refine wpOp_step (o := { dst := some 71, op := Op.pick (Operand.tmp 66) (Operand.const (Value.bool true)) (Operand.tmp 70), type := 4, pos := "law.go:43", after := #[{ on := 23, ground := Ground.data }, { on := 27, ground := Ground.data }], guard := none }) rfl ?_
      intro K hK
      have q66_ : a.tmps[66]? = some (.bool false) := hS.val 23 66 _ (hd 23 (of_decide_eq_true (by kernel_rfl))) rfl rfl
      have q70_ : a.tmps[70]? = some (.bool false) := hS.val 27 70 _ (hd 27 (of_decide_eq_true (by kernel_rfl))) rfl rfl
      go_simp
      exact hK _ _ ⟨hS.put hn 28 71 _ rfl (by rw [hsz0]; omega) (fun u h => by injection h with h; injection h with h; exact h.symm), hb, fun h => by
        rw [getD_set hls, if_neg (by omega)] at h
        obtain ⟨v, hv1, hv2⟩ := hA32 h
        exact ⟨v, by simpa using hv1, hv2⟩, fun h => by
        rw [getD_set hls, if_neg (by omega)] at h
        obtain ⟨v, hv1, hv2⟩ := hA35 h
        exact ⟨v, by simpa using hv1, hv2⟩⟩
    ·
      refine wpOp_step (o := { dst := some 72, op := Op.move (Operand.tmp 71), type := 4, pos := "law.go:43", after := #[{ on := 28, ground := Ground.data }, { on := 26, ground := Ground.chain }], guard := none }) rfl ?_
      intro K hK
      have q71_ : a.tmps[71]? = some (.bool false) := hS.val 28 71 _ (hd 28 (of_decide_eq_true (by kernel_rfl))) rfl rfl
      go_simp
      exact hK _ _ ⟨hS.put hn 29 72 _ rfl (by rw [hsz0]; omega) (fun u h => by injection h with h; injection h with h; exact h.symm), hb, fun h => by
        rw [getD_set hls, if_neg (by omega)] at h
        obtain ⟨v, hv1, hv2⟩ := hA32 h
        exact ⟨v, by simpa using hv1, hv2⟩, fun h => by
        rw [getD_set hls, if_neg (by omega)] at h
        obtain ⟨v, hv1, hv2⟩ := hA35 h
        exact ⟨v, by simpa using hv1, hv2⟩⟩
    ·
      refine wpOp_step (o := { dst := some 73, op := Op.load 26 (Operand.tmp 4), type := 26, pos := "law.go:43", after := #[{ on := 29, ground := Ground.guard }], guard := some (29, false) }) rfl ?_
      intro K hK
      have q72_ : a.tmps[72]? = some (.bool false) := hS.val 29 72 _ (hd 29 (of_decide_eq_true (by kernel_rfl))) rfl rfl
      have q4_ : a.tmps[4]? = some (.pointer (some ⟨vb, 0, none⟩)) := (hS.keep 4 (of_decide_eq_true (by kernel_rfl))).trans h4_
      rw [if_pos (wanted_guard (j := 29) (d := 72) (b := false) rfl rfl q72_)]
      have m0 := (hx.next hb).cell 0 _ rfl
      have m1 := (hx.next hb).cell 1 _ rfl
      have m2 := (hx.next hb).cell 2 _ rfl
      have m3 := (hx.next hb).cell 3 _ rfl
      have m4 := (hx.next hb).cell 4 _ rfl
      go_simp
      exact hK _ _ ⟨hS.put hn 30 73 _ rfl (by rw [hsz0]; omega) (fun u h => by injection h with h; injection h with h; exact h.symm), hb, fun h => by
        rw [getD_set hls, if_neg (by omega)] at h
        obtain ⟨v, hv1, hv2⟩ := hA32 h
        exact ⟨v, by simpa using hv1, hv2⟩, fun h => by
        rw [getD_set hls, if_neg (by omega)] at h
        obtain ⟨v, hv1, hv2⟩ := hA35 h
        exact ⟨v, by simpa using hv1, hv2⟩⟩
    ·
      refine wpOp_step (o := { dst := some 74, op := Op.move (Operand.tmp 1), type := 27, pos := "law.go:43", after := #[{ on := 29, ground := Ground.guard }], guard := some (29, false) }) rfl ?_
      intro K hK
      have q72_ : a.tmps[72]? = some (.bool false) := hS.val 29 72 _ (hd 29 (of_decide_eq_true (by kernel_rfl))) rfl rfl
      have q1_ : a.tmps[1]? = some (.slice u1 un uc) := (hS.keep 1 (of_decide_eq_true (by kernel_rfl))).trans h1_
      rw [if_pos (wanted_guard (j := 29) (d := 72) (b := false) rfl rfl q72_)]
      go_simp
      exact hK _ _ ⟨hS.put hn 31 74 _ rfl (by rw [hsz0]; omega) (fun u h => by injection h with h; injection h with h; exact h.symm), hb, fun h => by
        rw [getD_set hls, if_neg (by omega)] at h
        obtain ⟨v, hv1, hv2⟩ := hA32 h
        exact ⟨v, by simpa using hv1, hv2⟩, fun h => by
        rw [getD_set hls, if_neg (by omega)] at h
        obtain ⟨v, hv1, hv2⟩ := hA35 h
        exact ⟨v, by simpa using hv1, hv2⟩⟩
    ·
      refine wpOp_step (o := { dst := some 75, op := Op.call { callee := Callee.value (Operand.func 17), args := #[Operand.tmp 73, Operand.tmp 74], argTypes := #[26, 27] }, type := 36, pos := "law.go:43", after := #[{ on := 30, ground := Ground.data }, { on := 31, ground := Ground.data }, { on := 29, ground := Ground.chain }, { on := 29, ground := Ground.guard }], guard := some (29, false) }) rfl ?_
      intro K hK
      have q72_ : a.tmps[72]? = some (.bool false) := hS.val 29 72 _ (hd 29 (of_decide_eq_true (by kernel_rfl))) rfl rfl
      have q73_ : a.tmps[73]? = some (.agg #[.slice a1 n1 c1, .int .i64 gap, .int .i64 rad, .slice a2 n2 c2, .slice a3 n3 c3]) := hS.val 30 73 _ (hd 30 (of_decide_eq_true (by kernel_rfl))) rfl rfl
      have q74_ : a.tmps[74]? = some (.slice u1 un uc) := hS.val 31 74 _ (hd 31 (of_decide_eq_true (by kernel_rfl))) rfl rfl
      rw [if_pos (wanted_guard (j := 29) (d := 72) (b := false) rfl rfl q72_)]
      have hc := hc32 w hb
      go_simp
      go_at_call 17
      refine hc.mono ?_
      rintro e w' ⟨v, rfl, hrow, hb2⟩
      have hs2 : 75 < a.tmps.size := by rw [hsz.out]; omega
      exact hK _ _ ⟨hS.put hn 32 75 _ rfl (by rw [hsz0]; omega) (fun u h => by cases h), hb.trans (hb2.mono hb.size), fun h => ⟨v, by simp [hs2], hrow⟩, fun h => by
        rw [getD_set hls, if_neg (by omega)] at h
        obtain ⟨v, hv1, hv2⟩ := hA35 h
        exact ⟨v, by simpa using hv1, hv2.next hb2⟩⟩
    ·
      refine wpOp_step (o := { dst := some 76, op := Op.load 26 (Operand.tmp 4), type := 26, pos := "law.go:43", after := #[{ on := 29, ground := Ground.guard }], guard := some (29, false) }) rfl ?_
      intro K hK
      have q72_ : a.tmps[72]? = some (.bool false) := hS.val 29 72 _ (hd 29 (of_decide_eq_true (by kernel_rfl))) rfl rfl
      have q4_ : a.tmps[4]? = some (.pointer (some ⟨vb, 0, none⟩)) := (hS.keep 4 (of_decide_eq_true (by kernel_rfl))).trans h4_
      rw [if_pos (wanted_guard (j := 29) (d := 72) (b := false) rfl rfl q72_)]
      have m0 := (hx.next hb).cell 0 _ rfl
      have m1 := (hx.next hb).cell 1 _ rfl
      have m2 := (hx.next hb).cell 2 _ rfl
      have m3 := (hx.next hb).cell 3 _ rfl
      have m4 := (hx.next hb).cell 4 _ rfl
      go_simp
      exact hK _ _ ⟨hS.put hn 33 76 _ rfl (by rw [hsz0]; omega) (fun u h => by injection h with h; injection h with h; exact h.symm), hb, fun h => by
        rw [getD_set hls, if_neg (by omega)] at h
        obtain ⟨v, hv1, hv2⟩ := hA32 h
        exact ⟨v, by simpa using hv1, hv2⟩, fun h => by
        rw [getD_set hls, if_neg (by omega)] at h
        obtain ⟨v, hv1, hv2⟩ := hA35 h
        exact ⟨v, by simpa using hv1, hv2⟩⟩
    ·
      refine wpOp_step (o := { dst := some 77, op := Op.move (Operand.tmp 1), type := 27, pos := "law.go:43", after := #[{ on := 29, ground := Ground.guard }], guard := some (29, false) }) rfl ?_
      intro K hK
      have q72_ : a.tmps[72]? = some (.bool false) := hS.val 29 72 _ (hd 29 (of_decide_eq_true (by kernel_rfl))) rfl rfl
      have q1_ : a.tmps[1]? = some (.slice u1 un uc) := (hS.keep 1 (of_decide_eq_true (by kernel_rfl))).trans h1_
      rw [if_pos (wanted_guard (j := 29) (d := 72) (b := false) rfl rfl q72_)]
      go_simp
      exact hK _ _ ⟨hS.put hn 34 77 _ rfl (by rw [hsz0]; omega) (fun u h => by injection h with h; injection h with h; exact h.symm), hb, fun h => by
        rw [getD_set hls, if_neg (by omega)] at h
        obtain ⟨v, hv1, hv2⟩ := hA32 h
        exact ⟨v, by simpa using hv1, hv2⟩, fun h => by
        rw [getD_set hls, if_neg (by omega)] at h
        obtain ⟨v, hv1, hv2⟩ := hA35 h
        exact ⟨v, by simpa using hv1, hv2⟩⟩
    ·
      refine wpOp_step (o := { dst := some 78, op := Op.call { callee := Callee.value (Operand.func 18), args := #[Operand.tmp 76, Operand.tmp 77], argTypes := #[26, 27] }, type := 36, pos := "law.go:43", after := #[{ on := 33, ground := Ground.data }, { on := 34, ground := Ground.data }, { on := 32, ground := Ground.chain }, { on := 29, ground := Ground.guard }], guard := some (29, false) }) rfl ?_
      intro K hK
      have q72_ : a.tmps[72]? = some (.bool false) := hS.val 29 72 _ (hd 29 (of_decide_eq_true (by kernel_rfl))) rfl rfl
      have q76_ : a.tmps[76]? = some (.agg #[.slice a1 n1 c1, .int .i64 gap, .int .i64 rad, .slice a2 n2 c2, .slice a3 n3 c3]) := hS.val 33 76 _ (hd 33 (of_decide_eq_true (by kernel_rfl))) rfl rfl
      have q77_ : a.tmps[77]? = some (.slice u1 un uc) := hS.val 34 77 _ (hd 34 (of_decide_eq_true (by kernel_rfl))) rfl rfl
      rw [if_pos (wanted_guard (j := 29) (d := 72) (b := false) rfl rfl q72_)]
      have hc := hc35 w hb
      go_simp
      go_at_call 18
      refine hc.mono ?_
      rintro e w' ⟨v, rfl, hrow, hb2⟩
      have hs2 : 78 < a.tmps.size := by rw [hsz.out]; omega
      exact hK _ _ ⟨hS.put hn 35 78 _ rfl (by rw [hsz0]; omega) (fun u h => by cases h), hb.trans (hb2.mono hb.size), fun h => by
        rw [getD_set hls, if_neg (by omega)] at h
        obtain ⟨v, hv1, hv2⟩ := hA32 h
        exact ⟨v, by simpa using hv1, hv2.next hb2⟩, fun h => ⟨v, by simp [hs2], hrow⟩⟩
    ·
      refine wpOp_step (o := { dst := some 79, op := Op.call { callee := Callee.value (Operand.func 16), args := #[Operand.tmp 75, Operand.tmp 78], argTypes := #[36, 36] }, type := 4, pos := "law.go:43", after := #[{ on := 32, ground := Ground.data }, { on := 35, ground := Ground.data }, { on := 35, ground := Ground.chain }, { on := 29, ground := Ground.guard }], guard := some (29, false) }) rfl ?_
      intro K hK
      have q72_ : a.tmps[72]? = some (.bool false) := hS.val 29 72 _ (hd 29 (of_decide_eq_true (by kernel_rfl))) rfl rfl
      rw [if_pos (wanted_guard (j := 29) (d := 72) (b := false) rfl rfl q72_)]
      obtain ⟨v0, hv0, hp0⟩ := hA32 (hd 32 (of_decide_eq_true (by kernel_rfl)))
      obtain ⟨v1, hv1, hp1⟩ := hA35 (hd 35 (of_decide_eq_true (by kernel_rfl)))
      have hc := lists_any L hL v0 v1 w hp0 hp1
      go_simp
      go_at_call 16
      refine hc.mono ?_
      rintro e w' ⟨rfl, hb2⟩
      exact hK _ _ ⟨hS.put hn 36 79 _ rfl (by rw [hsz0]; omega) (fun u h => by injection h with h; injection h with h; exact h.symm), hb.trans (hb2.mono hb.size), fun h => by
        rw [getD_set hls, if_neg (by omega)] at h
        obtain ⟨v, hv1, hv2⟩ := hA32 h
        exact ⟨v, by simpa using hv1, hv2.next hb2⟩, fun h => by
        rw [getD_set hls, if_neg (by omega)] at h
        obtain ⟨v, hv1, hv2⟩ := hA35 h
        exact ⟨v, by simpa using hv1, hv2.next hb2⟩⟩
    ·
      refine wpOp_step (o := { dst := some 80, op := Op.unOp UnOp.not 4 (Operand.tmp 79), type := 4, pos := "law.go:43", after := #[{ on := 36, ground := Ground.data }, { on := 29, ground := Ground.guard }], guard := some (29, false) }) rfl ?_
      intro K hK
      have q72_ : a.tmps[72]? = some (.bool false) := hS.val 29 72 _ (hd 29 (of_decide_eq_true (by kernel_rfl))) rfl rfl
      have q79_ : a.tmps[79]? = some (.bool true) := hS.val 36 79 _ (hd 36 (of_decide_eq_true (by kernel_rfl))) rfl rfl
      rw [if_pos (wanted_guard (j := 29) (d := 72) (b := false) rfl rfl q72_)]
      go_simp
      exact hK _ _ ⟨hS.put hn 37 80 _ rfl (by rw [hsz0]; omega) (fun u h => by injection h with h; injection h with h; exact h.symm), hb, fun h => by
        rw [getD_set hls, if_neg (by omega)] at h
        obtain ⟨v, hv1, hv2⟩ := hA32 h
        exact ⟨v, by simpa using hv1, hv2⟩, fun h => by
        rw [getD_set hls, if_neg (by omega)] at h
        obtain ⟨v, hv1, hv2⟩ := hA35 h
        exact ⟨v, by simpa using hv1, hv2⟩⟩
    ·
      refine wpOp_step (o := { dst := some 81, op := Op.pick (Operand.tmp 72) (Operand.const (Value.bool true)) (Operand.tmp 80), type := 4, pos := "law.go:43", after := #[{ on := 29, ground := Ground.data }, { on := 37, ground := Ground.data }], guard := none }) rfl ?_
      intro K hK
      have q72_ : a.tmps[72]? = some (.bool false) := hS.val 29 72 _ (hd 29 (of_decide_eq_true (by kernel_rfl))) rfl rfl
      have q80_ : a.tmps[80]? = some (.bool false) := hS.val 37 80 _ (hd 37 (of_decide_eq_true (by kernel_rfl))) rfl rfl
      go_simp
      exact hK _ _ ⟨hS.put hn 38 81 _ rfl (by rw [hsz0]; omega) (fun u h => by injection h with h; injection h with h; exact h.symm), hb, fun h => by
        rw [getD_set hls, if_neg (by omega)] at h
        obtain ⟨v, hv1, hv2⟩ := hA32 h
        exact ⟨v, by simpa using hv1, hv2⟩, fun h => by
        rw [getD_set hls, if_neg (by omega)] at h
        obtain ⟨v, hv1, hv2⟩ := hA35 h
        exact ⟨v, by simpa using hv1, hv2⟩⟩
  · intro listed a w hall ⟨hS, hb, hA32, hA35⟩
    obtain ⟨v32, hv32, hi32⟩ := hA32 (hall 32 (by decide))
    obtain ⟨v35, hv35, hi35⟩ := hA35 (hall 35 (by decide))
    have hf := hS.frame [(43, .agg #[.slice a1 n1 c1, .int .i64 gap, .int .i64 rad, .slice a2 n2 c2, .slice a3 n3 c3]), (44, .int .i64 aa), (45, .bool C), (46, .agg #[.slice a1 n1 c1, .int .i64 gap, .int .i64 rad, .slice a2 n2 c2, .slice a3 n3 c3]), (47, .int .i64 aa), (48, .bool C), (49, .bool false), (50, .bool false), (51, .agg #[.slice a1 n1 c1, .int .i64 gap, .int .i64 rad, .slice a2 n2 c2, .slice a3 n3 c3]), (52, .slice u1 un uc), (53, .int .i64 aa), (54, .int .i64 D), (55, .agg #[.slice a1 n1 c1, .int .i64 gap, .int .i64 rad, .slice a2 n2 c2, .slice a3 n3 c3]), (56, .slice u1 un uc), (57, .int .i64 aa), (58, .int .i64 D), (59, .bool false), (60, .bool false), (61, .bool false), (62, .bool ok), (63, .bool ok), (64, .bool false), (65, .bool false), (66, .bool false), (67, .slice xa xn xc), (68, .slice ya yn yc), (69, .bool true), (70, .bool false), (71, .bool false), (72, .bool false), (73, .agg #[.slice a1 n1 c1, .int .i64 gap, .int .i64 rad, .slice a2 n2 c2, .slice a3 n3 c3]), (74, .slice u1 un uc), (75, v32), (76, .agg #[.slice a1 n1 c1, .int .i64 gap, .int .i64 rad, .slice a2 n2 c2, .slice a3 n3 c3]), (77, .slice u1 un uc), (78, v35), (79, .bool true), (80, .bool false), (81, .bool false)] rfl (of_decide_eq_true (by kernel_rfl)) (by
      simp only [List.map_cons, List.map_nil, List.all_cons, List.all_nil, hsz0]; rfl) (by
      intro p hp
      simp only [List.mem_cons, List.not_mem_nil, or_false] at hp
      rcases hp with rfl | rfl | rfl | rfl | rfl | rfl | rfl | rfl | rfl | rfl | rfl | rfl | rfl | rfl | rfl | rfl | rfl | rfl | rfl | rfl | rfl | rfl | rfl | rfl | rfl | rfl | rfl | rfl | rfl | rfl | rfl | rfl | rfl | rfl | rfl | rfl | rfl | rfl | rfl
      · exact hS.val 0 43 _ (hall 0 (by decide)) rfl rfl
      · exact hS.val 1 44 _ (hall 1 (by decide)) rfl rfl
      · exact hS.val 2 45 _ (hall 2 (by decide)) rfl rfl
      · exact hS.val 3 46 _ (hall 3 (by decide)) rfl rfl
      · exact hS.val 4 47 _ (hall 4 (by decide)) rfl rfl
      · exact hS.val 5 48 _ (hall 5 (by decide)) rfl rfl
      · exact hS.val 6 49 _ (hall 6 (by decide)) rfl rfl
      · exact hS.val 7 50 _ (hall 7 (by decide)) rfl rfl
      · exact hS.val 8 51 _ (hall 8 (by decide)) rfl rfl
      · exact hS.val 9 52 _ (hall 9 (by decide)) rfl rfl
      · exact hS.val 10 53 _ (hall 10 (by decide)) rfl rfl
      · exact hS.val 11 54 _ (hall 11 (by decide)) rfl rfl
      · exact hS.val 12 55 _ (hall 12 (by decide)) rfl rfl
      · exact hS.val 13 56 _ (hall 13 (by decide)) rfl rfl
      · exact hS.val 14 57 _ (hall 14 (by decide)) rfl rfl
      · exact hS.val 15 58 _ (hall 15 (by decide)) rfl rfl
      · exact hS.val 16 59 _ (hall 16 (by decide)) rfl rfl
      · exact hS.val 17 60 _ (hall 17 (by decide)) rfl rfl
      · exact hS.val 18 61 _ (hall 18 (by decide)) rfl rfl
      · exact hS.val 19 62 _ (hall 19 (by decide)) rfl rfl
      · exact hS.val 20 63 _ (hall 20 (by decide)) rfl rfl
      · exact hS.val 21 64 _ (hall 21 (by decide)) rfl rfl
      · exact hS.val 22 65 _ (hall 22 (by decide)) rfl rfl
      · exact hS.val 23 66 _ (hall 23 (by decide)) rfl rfl
      · exact hS.val 24 67 _ (hall 24 (by decide)) rfl rfl
      · exact hS.val 25 68 _ (hall 25 (by decide)) rfl rfl
      · exact hS.val 26 69 _ (hall 26 (by decide)) rfl rfl
      · exact hS.val 27 70 _ (hall 27 (by decide)) rfl rfl
      · exact hS.val 28 71 _ (hall 28 (by decide)) rfl rfl
      · exact hS.val 29 72 _ (hall 29 (by decide)) rfl rfl
      · exact hS.val 30 73 _ (hall 30 (by decide)) rfl rfl
      · exact hS.val 31 74 _ (hall 31 (by decide)) rfl rfl
      · exact hv32
      · exact hS.val 33 76 _ (hall 33 (by decide)) rfl rfl
      · exact hS.val 34 77 _ (hall 34 (by decide)) rfl rfl
      · exact hv35
      · exact hS.val 36 79 _ (hall 36 (by decide)) rfl rfl
      · exact hS.val 37 80 _ (hall 37 (by decide)) rfl rfl
      · exact hS.val 38 81 _ (hall 38 (by decide)) rfl rfl)
    rw [hf]
    exact hQ w v32 v35 hb
end Go.Proofs.Ytdodmbfkcandgaa.Rnn
