/- KillAsks' statement with eleven calls, guarded and drawn, by an invariant (a venue without seats). -/
import Derived.Test.YtbmmjbklfheghaaKTold
import Derived.Test.YtbmmjbklfheghaaCGuard
namespace Go.Proofs.Ytbmmjbklfheghaa.Kll
set_option linter.unusedVariables false
set_option maxRecDepth 100000
open Go.RowKit Go.Shelf
open Go.Proofs.Ytbmmjbklfheghaa.Ven (Box mixed Slots wp_region_inv getD_set start_false putAll Slots.start slot_of Sl intC)
open Go.Proofs.Ytbmmjbklfheghaa.Com (hid' MarksAt MarksV wanted_guard unwanted_guard)

set_option maxHeartbeats 16000000 in
theorem asks_region0 {Q : Exit → Act → World → Prop} (a0 : Act) (W : World) (hsz0 : a0.tmps.size = 80) (vb : Nat) (a1 a2 a3 u1 la : Option Addr) (n1 c1 n2 c2 n3 c3 un uc ln lc : Nat) (gap rad kk : Int) (UL : List Bool) (KL BK : List Int) (h0 : Hid (n1 = 0))
    (hx : Box W vb 26 #[.slice a1 n1 c1, .int .i64 gap, .int .i64 rad, .slice a2 n2 c2, .slice a3 n3 c3]) (hKu : MarksAt W u1 un uc UL) (hKl : Sl 1 intC W (.slice la ln lc) KL)
    (h2_ : a0.tmps[2]? = some (.pointer (some ⟨vb, 0, none⟩))) (h1_ : a0.tmps[1]? = some (.int .i64 kk)) (h5_ : a0.tmps[5]? = some (.slice u1 un uc)) (h6_ : a0.tmps[6]? = some (.slice la ln lc))
    (hc0 : ∀ w, Below W.heap.size W w → Calls Try.prog 8 #[] w fun e w' => e = .returned (.bool true) ∧ Below w.heap.size w w')
    (hc3 : ∀ w, Below W.heap.size W w → Calls Try.prog 11 #[.agg #[.slice a1 n1 c1, .int .i64 gap, .int .i64 rad, .slice a2 n2 c2, .slice a3 n3 c3]] w fun e w' => ∃ v, e = .returned v ∧ MarksV w' v UL ∧ Below w.heap.size w w')
    (hc9 : ∀ w, Below W.heap.size W w → Calls Try.prog 13 #[.agg #[.slice a1 n1 c1, .int .i64 gap, .int .i64 rad, .slice a2 n2 c2, .slice a3 n3 c3]] w fun e w' => ∃ v, e = .returned v ∧ Sl 1 intC w' v KL ∧ Below w.heap.size w w')
    (hc16 : ∀ w, Below W.heap.size W w → Calls Try.prog 14 #[.agg #[.slice a1 n1 c1, .int .i64 gap, .int .i64 rad, .slice a2 n2 c2, .slice a3 n3 c3], .int .i64 kk] w fun e w' => ∃ v, e = .returned v ∧ Sl 1 intC w' v BK ∧ Below w.heap.size w w')
    (hc19 : ∀ w, Below W.heap.size W w → Calls Try.prog 15 #[.agg #[.slice a1 n1 c1, .int .i64 gap, .int .i64 rad, .slice a2 n2 c2, .slice a3 n3 c3], .int .i64 kk] w fun e w' => ∃ v, e = .returned v ∧ Sl 1 intC w' v BK ∧ Below w.heap.size w w')
    (hQ : ∀ w' v3 v9 v16 v19, Below W.heap.size W w' → Q .normal { tmps := putAll a0.tmps [(29, .bool true), (30, .bool true), (31, .agg #[.slice a1 n1 c1, .int .i64 gap, .int .i64 rad, .slice a2 n2 c2, .slice a3 n3 c3]), (32, v3), (33, .slice u1 un uc), (34, .bool true), (35, .bool true), (36, .bool true), (37, .agg #[.slice a1 n1 c1, .int .i64 gap, .int .i64 rad, .slice a2 n2 c2, .slice a3 n3 c3]), (38, v9), (39, .slice la ln lc), (40, .bool true), (41, .bool true), (42, .bool true), (43, .agg #[.slice a1 n1 c1, .int .i64 gap, .int .i64 rad, .slice a2 n2 c2, .slice a3 n3 c3]), (44, .int .i64 kk), (45, v16), (46, .agg #[.slice a1 n1 c1, .int .i64 gap, .int .i64 rad, .slice a2 n2 c2, .slice a3 n3 c3]), (47, .int .i64 kk), (48, v19), (49, .bool true), (50, .bool true), (51, .bool true), (52, .pointer (some ⟨vb, 0, none⟩)), (53, .slice a1 n1 c1), (54, .int .i64 n1), (55, .bool true), (56, .bool true), (57, undef), (58, undef), (59, undef), (60, undef), (61, undef), (62, undef), (63, undef), (64, undef), (65, undef), (66, undef), (67, undef), (68, undef), (69, undef), (70, undef), (71, undef), (72, undef), (73, undef), (74, undef), (75, undef), (76, undef), (77, undef), (78, .bool true), (79, .bool true), (4, .bool true)], defers := a0.defers } w') :
    (Code.region 10 #[{ dst := some 29, op := Op.call { callee := Callee.value (Operand.func 8), args := #[], argTypes := #[] }, type := 4, pos := "law.go:47", after := #[], guard := none }, { dst := some 30, op := Op.move (Operand.tmp 29), type := 4, pos := "law.go:47", after := #[{ on := 0, ground := Ground.data }, { on := 0, ground := Ground.chain }], guard := none }, { dst := some 31, op := Op.load 26 (Operand.tmp 2), type := 26, pos := "law.go:47", after := #[{ on := 1, ground := Ground.guard }], guard := some (1, true) }, { dst := some 32, op := Op.call { callee := Callee.value (Operand.func 11), args := #[Operand.tmp 31], argTypes := #[26] }, type := 29, pos := "law.go:47", after := #[{ on := 2, ground := Ground.data }, { on := 1, ground := Ground.chain }, { on := 1, ground := Ground.guard }], guard := some (1, true) }, { dst := some 33, op := Op.move (Operand.tmp 5), type := 29, pos := "law.go:47", after := #[{ on := 1, ground := Ground.guard }], guard := some (1, true) }, { dst := some 34, op := Op.call { callee := Callee.value (Operand.func 10), args := #[Operand.tmp 32, Operand.tmp 33], argTypes := #[29, 29] }, type := 4, pos := "law.go:47", after := #[{ on := 3, ground := Ground.data }, { on := 4, ground := Ground.data }, { on := 3, ground := Ground.chain }, { on := 1, ground := Ground.guard }], guard := some (1, true) }, { dst := some 35, op := Op.pick (Operand.tmp 30) (Operand.tmp 34) (Operand.const (Value.bool false)), type := 4, pos := "law.go:47", after := #[{ on := 1, ground := Ground.data }, { on := 5, ground := Ground.data }], guard := none }, { dst := some 36, op := Op.move (Operand.tmp 35), type := 4, pos := "law.go:47", after := #[{ on := 6, ground := Ground.data }, { on := 5, ground := Ground.chain }], guard := none }, { dst := some 37, op := Op.load 26 (Operand.tmp 2), type := 26, pos := "law.go:47", after := #[{ on := 7, ground := Ground.guard }], guard := some (7, true) }, { dst := some 38, op := Op.call { callee := Callee.value (Operand.func 13), args := #[Operand.tmp 37], argTypes := #[26] }, type := 23, pos := "law.go:47", after := #[{ on := 8, ground := Ground.data }, { on := 7, ground := Ground.chain }, { on := 7, ground := Ground.guard }], guard := some (7, true) }, { dst := some 39, op := Op.move (Operand.tmp 6), type := 23, pos := "law.go:47", after := #[{ on := 7, ground := Ground.guard }], guard := some (7, true) }, { dst := some 40, op := Op.call { callee := Callee.value (Operand.func 12), args := #[Operand.tmp 38, Operand.tmp 39], argTypes := #[23, 23] }, type := 4, pos := "law.go:47", after := #[{ on := 9, ground := Ground.data }, { on := 10, ground := Ground.data }, { on := 9, ground := Ground.chain }, { on := 7, ground := Ground.guard }], guard := some (7, true) }, { dst := some 41, op := Op.pick (Operand.tmp 36) (Operand.tmp 40) (Operand.const (Value.bool false)), type := 4, pos := "law.go:47", after := #[{ on := 7, ground := Ground.data }, { on := 11, ground := Ground.data }], guard := none }, { dst := some 42, op := Op.move (Operand.tmp 41), type := 4, pos := "law.go:47", after := #[{ on := 12, ground := Ground.data }, { on := 11, ground := Ground.chain }], guard := none }, { dst := some 43, op := Op.load 26 (Operand.tmp 2), type := 26, pos := "law.go:47", after := #[{ on := 13, ground := Ground.guard }], guard := some (13, true) }, { dst := some 44, op := Op.move (Operand.tmp 1), type := 3, pos := "law.go:47", after := #[{ on := 13, ground := Ground.guard }], guard := some (13, true) }, { dst := some 45, op := Op.call { callee := Callee.value (Operand.func 14), args := #[Operand.tmp 43, Operand.tmp 44], argTypes := #[26, 3] }, type := 23, pos := "law.go:47", after := #[{ on := 14, ground := Ground.data }, { on := 15, ground := Ground.data }, { on := 13, ground := Ground.chain }, { on := 13, ground := Ground.guard }], guard := some (13, true) }, { dst := some 46, op := Op.load 26 (Operand.tmp 2), type := 26, pos := "law.go:47", after := #[{ on := 13, ground := Ground.guard }], guard := some (13, true) }, { dst := some 47, op := Op.move (Operand.tmp 1), type := 3, pos := "law.go:47", after := #[{ on := 13, ground := Ground.guard }], guard := some (13, true) }, { dst := some 48, op := Op.call { callee := Callee.value (Operand.func 15), args := #[Operand.tmp 46, Operand.tmp 47], argTypes := #[26, 3] }, type := 23, pos := "law.go:47", after := #[{ on := 17, ground := Ground.data }, { on := 18, ground := Ground.data }, { on := 16, ground := Ground.chain }, { on := 13, ground := Ground.guard }], guard := some (13, true) }, { dst := some 49, op := Op.call { callee := Callee.value (Operand.func 12), args := #[Operand.tmp 45, Operand.tmp 48], argTypes := #[23, 23] }, type := 4, pos := "law.go:47", after := #[{ on := 16, ground := Ground.data }, { on := 19, ground := Ground.data }, { on := 19, ground := Ground.chain }, { on := 13, ground := Ground.guard }], guard := some (13, true) }, { dst := some 50, op := Op.pick (Operand.tmp 42) (Operand.tmp 49) (Operand.const (Value.bool false)), type := 4, pos := "law.go:47", after := #[{ on := 13, ground := Ground.data }, { on := 20, ground := Ground.data }], guard := none }, { dst := some 51, op := Op.move (Operand.tmp 50), type := 4, pos := "law.go:47", after := #[{ on := 21, ground := Ground.data }, { on := 20, ground := Ground.chain }], guard := none }, { dst := some 52, op := Op.fieldAddr 26 (Operand.tmp 2) 0, type := 0, pos := "law.go:47", after := #[{ on := 22, ground := Ground.guard }], guard := some (22, true) }, { dst := some 53, op := Op.load 22 (Operand.tmp 52), type := 22, pos := "law.go:47", after := #[{ on := 23, ground := Ground.data }, { on := 22, ground := Ground.guard }], guard := some (22, true) }, { dst := some 54, op := Op.call { callee := Callee.builtin Builtin.len, args := #[Operand.tmp 53], argTypes := #[22] }, type := 3, pos := "law.go:47", after := #[{ on := 24, ground := Ground.data }, { on := 22, ground := Ground.guard }], guard := some (22, true) }, { dst := some 55, op := Op.binOp BinOp.eql 3 (Operand.tmp 54) (Operand.const (Value.int IntKind.i64 0)) 3, type := 4, pos := "law.go:47", after := #[{ on := 25, ground := Ground.data }, { on := 22, ground := Ground.guard }], guard := some (22, true) }, { dst := some 56, op := Op.move (Operand.tmp 55), type := 4, pos := "law.go:47", after := #[{ on := 26, ground := Ground.data }, { on := 22, ground := Ground.chain }, { on := 22, ground := Ground.guard }], guard := some (22, true) }, { dst := some 57, op := Op.load 26 (Operand.tmp 2), type := 26, pos := "law.go:47", after := #[{ on := 27, ground := Ground.guard }], guard := some (27, false) }, { dst := some 58, op := Op.move (Operand.tmp 1), type := 3, pos := "law.go:47", after := #[{ on := 27, ground := Ground.guard }], guard := some (27, false) }, { dst := some 59, op := Op.convert 3 35 (Operand.tmp 58), type := 35, pos := "law.go:47", after := #[{ on := 29, ground := Ground.data }, { on := 27, ground := Ground.guard }], guard := some (27, false) }, { dst := some 60, op := Op.fieldAddr 26 (Operand.tmp 2) 0, type := 0, pos := "law.go:47", after := #[{ on := 27, ground := Ground.guard }], guard := some (27, false) }, { dst := some 61, op := Op.load 22 (Operand.tmp 60), type := 22, pos := "law.go:47", after := #[{ on := 31, ground := Ground.data }, { on := 27, ground := Ground.guard }], guard := some (27, false) }, { dst := some 62, op := Op.call { callee := Callee.builtin Builtin.len, args := #[Operand.tmp 61], argTypes := #[22] }, type := 3, pos := "law.go:47", after := #[{ on := 32, ground := Ground.data }, { on := 27, ground := Ground.guard }], guard := some (27, false) }, { dst := some 63, op := Op.convert 3 35 (Operand.tmp 62), type := 35, pos := "law.go:47", after := #[{ on := 33, ground := Ground.data }, { on := 27, ground := Ground.guard }], guard := some (27, false) }, { dst := some 64, op := Op.binOp BinOp.rem 35 (Operand.tmp 59) (Operand.tmp 63) 35, type := 35, pos := "law.go:47", after := #[{ on := 30, ground := Ground.data }, { on := 34, ground := Ground.data }, { on := 27, ground := Ground.guard }], guard := some (27, false) }, { dst := some 65, op := Op.convert 35 3 (Operand.tmp 64), type := 3, pos := "law.go:47", after := #[{ on := 35, ground := Ground.data }, { on := 27, ground := Ground.guard }], guard := some (27, false) }, { dst := some 66, op := Op.call { callee := Callee.value (Operand.func 14), args := #[Operand.tmp 57, Operand.tmp 65], argTypes := #[26, 3] }, type := 23, pos := "law.go:47", after := #[{ on := 28, ground := Ground.data }, { on := 36, ground := Ground.data }, { on := 27, ground := Ground.chain }, { on := 27, ground := Ground.guard }], guard := some (27, false) }, { dst := some 67, op := Op.load 26 (Operand.tmp 2), type := 26, pos := "law.go:47", after := #[{ on := 27, ground := Ground.guard }], guard := some (27, false) }, { dst := some 68, op := Op.move (Operand.tmp 1), type := 3, pos := "law.go:47", after := #[{ on := 27, ground := Ground.guard }], guard := some (27, false) }, { dst := some 69, op := Op.convert 3 35 (Operand.tmp 68), type := 35, pos := "law.go:47", after := #[{ on := 39, ground := Ground.data }, { on := 27, ground := Ground.guard }], guard := some (27, false) }, { dst := some 70, op := Op.fieldAddr 26 (Operand.tmp 2) 0, type := 0, pos := "law.go:47", after := #[{ on := 27, ground := Ground.guard }], guard := some (27, false) }, { dst := some 71, op := Op.load 22 (Operand.tmp 70), type := 22, pos := "law.go:47", after := #[{ on := 41, ground := Ground.data }, { on := 27, ground := Ground.guard }], guard := some (27, false) }, { dst := some 72, op := Op.call { callee := Callee.builtin Builtin.len, args := #[Operand.tmp 71], argTypes := #[22] }, type := 3, pos := "law.go:47", after := #[{ on := 42, ground := Ground.data }, { on := 27, ground := Ground.guard }], guard := some (27, false) }, { dst := some 73, op := Op.convert 3 35 (Operand.tmp 72), type := 35, pos := "law.go:47", after := #[{ on := 43, ground := Ground.data }, { on := 27, ground := Ground.guard }], guard := some (27, false) }, { dst := some 74, op := Op.binOp BinOp.rem 35 (Operand.tmp 69) (Operand.tmp 73) 35, type := 35, pos := "law.go:47", after := #[{ on := 40, ground := Ground.data }, { on := 44, ground := Ground.data }, { on := 27, ground := Ground.guard }], guard := some (27, false) }, { dst := some 75, op := Op.convert 35 3 (Operand.tmp 74), type := 3, pos := "law.go:47", after := #[{ on := 45, ground := Ground.data }, { on := 27, ground := Ground.guard }], guard := some (27, false) }, { dst := some 76, op := Op.call { callee := Callee.value (Operand.func 15), args := #[Operand.tmp 67, Operand.tmp 75], argTypes := #[26, 3] }, type := 23, pos := "law.go:47", after := #[{ on := 38, ground := Ground.data }, { on := 46, ground := Ground.data }, { on := 37, ground := Ground.chain }, { on := 27, ground := Ground.guard }], guard := some (27, false) }, { dst := some 77, op := Op.call { callee := Callee.value (Operand.func 12), args := #[Operand.tmp 66, Operand.tmp 76], argTypes := #[23, 23] }, type := 4, pos := "law.go:47", after := #[{ on := 37, ground := Ground.data }, { on := 47, ground := Ground.data }, { on := 47, ground := Ground.chain }, { on := 27, ground := Ground.guard }], guard := some (27, false) }, { dst := some 78, op := Op.pick (Operand.tmp 56) (Operand.const (Value.bool true)) (Operand.tmp 77), type := 4, pos := "law.go:47", after := #[{ on := 27, ground := Ground.data }, { on := 48, ground := Ground.data }, { on := 22, ground := Ground.guard }], guard := some (22, true) }, { dst := some 79, op := Op.pick (Operand.tmp 51) (Operand.tmp 78) (Operand.const (Value.bool false)), type := 4, pos := "law.go:47", after := #[{ on := 22, ground := Ground.data }, { on := 49, ground := Ground.data }], guard := none }, { dst := some 4, op := Op.assign (Operand.tmp 79), type := 4, pos := "law.go:47", after := #[{ on := 50, ground := Ground.data }, { on := 48, ground := Ground.chain }, { on := 0, ground := Ground.phase }, { on := 1, ground := Ground.phase }, { on := 2, ground := Ground.phase }, { on := 3, ground := Ground.phase }, { on := 4, ground := Ground.phase }, { on := 5, ground := Ground.phase }, { on := 6, ground := Ground.phase }, { on := 7, ground := Ground.phase }, { on := 8, ground := Ground.phase }, { on := 9, ground := Ground.phase }, { on := 10, ground := Ground.phase }, { on := 11, ground := Ground.phase }, { on := 12, ground := Ground.phase }, { on := 13, ground := Ground.phase }, { on := 14, ground := Ground.phase }, { on := 15, ground := Ground.phase }, { on := 16, ground := Ground.phase }, { on := 17, ground := Ground.phase }, { on := 18, ground := Ground.phase }, { on := 19, ground := Ground.phase }, { on := 20, ground := Ground.phase }, { on := 21, ground := Ground.phase }, { on := 22, ground := Ground.phase }, { on := 23, ground := Ground.phase }, { on := 24, ground := Ground.phase }, { on := 25, ground := Ground.phase }, { on := 26, ground := Ground.phase }, { on := 27, ground := Ground.phase }, { on := 28, ground := Ground.phase }, { on := 29, ground := Ground.phase }, { on := 30, ground := Ground.phase }, { on := 31, ground := Ground.phase }, { on := 32, ground := Ground.phase }, { on := 33, ground := Ground.phase }, { on := 34, ground := Ground.phase }, { on := 35, ground := Ground.phase }, { on := 36, ground := Ground.phase }, { on := 37, ground := Ground.phase }, { on := 38, ground := Ground.phase }, { on := 39, ground := Ground.phase }, { on := 40, ground := Ground.phase }, { on := 41, ground := Ground.phase }, { on := 42, ground := Ground.phase }, { on := 43, ground := Ground.phase }, { on := 44, ground := Ground.phase }, { on := 45, ground := Ground.phase }, { on := 46, ground := Ground.phase }, { on := 47, ground := Ground.phase }, { on := 48, ground := Ground.phase }, { on := 49, ground := Ground.phase }, { on := 50, ground := Ground.phase }], guard := none }] true).wp Try.prog Q a0 W := by
  have hn : ([some 29, some 30, some 31, some 32, some 33, some 34, some 35, some 36, some 37, some 38, some 39, some 40, some 41, some 42, some 43, some 44, some 45, some 46, some 47, some 48, some 49, some 50, some 51, some 52, some 53, some 54, some 55, some 56, some 57, some 58, some 59, some 60, some 61, some 62, some 63, some 64, some 65, some 66, some 67, some 68, some 69, some 70, some 71, some 72, some 73, some 74, some 75, some 76, some 77, some 78, some 79, some 4] : List (Option Nat)).Pairwise (fun x y => x = none ∨ x ≠ y) := of_decide_eq_true (by kernel_rfl)
  have z0 : ((n1 : Int) == 0) = true := by simp [h0.out]
  refine wp_region_inv mixed (fun listed a w => Slots a0 [some 29, some 30, some 31, some 32, some 33, some 34, some 35, some 36, some 37, some 38, some 39, some 40, some 41, some 42, some 43, some 44, some 45, some 46, some 47, some 48, some 49, some 50, some 51, some 52, some 53, some 54, some 55, some 56, some 57, some 58, some 59, some 60, some 61, some 62, some 63, some 64, some 65, some 66, some 67, some 68, some 69, some 70, some 71, some 72, some 73, some 74, some 75, some 76, some 77, some 78, some 79, some 4] [some (.bool true), some (.bool true), some (.agg #[.slice a1 n1 c1, .int .i64 gap, .int .i64 rad, .slice a2 n2 c2, .slice a3 n3 c3]), none, some (.slice u1 un uc), some (.bool true), some (.bool true), some (.bool true), some (.agg #[.slice a1 n1 c1, .int .i64 gap, .int .i64 rad, .slice a2 n2 c2, .slice a3 n3 c3]), none, some (.slice la ln lc), some (.bool true), some (.bool true), some (.bool true), some (.agg #[.slice a1 n1 c1, .int .i64 gap, .int .i64 rad, .slice a2 n2 c2, .slice a3 n3 c3]), some (.int .i64 kk), none, some (.agg #[.slice a1 n1 c1, .int .i64 gap, .int .i64 rad, .slice a2 n2 c2, .slice a3 n3 c3]), some (.int .i64 kk), none, some (.bool true), some (.bool true), some (.bool true), some (.pointer (some ⟨vb, 0, none⟩)), some (.slice a1 n1 c1), some (.int .i64 n1), some (.bool true), some (.bool true), some (undef), some (undef), some (undef), some (undef), some (undef), some (undef), some (undef), some (undef), some (undef), some (undef), some (undef), some (undef), some (undef), some (undef), some (undef), some (undef), some (undef), some (undef), some (undef), some (undef), some (undef), some (.bool true), some (.bool true), some (.bool true)] listed a ∧ Below W.heap.size W w ∧ (listed.getD 3 false = true → ∃ v, a.tmps[32]? = some v ∧ MarksV w v UL) ∧ (listed.getD 9 false = true → ∃ v, a.tmps[38]? = some v ∧ Sl 1 intC w v KL) ∧ (listed.getD 16 false = true → ∃ v, a.tmps[45]? = some v ∧ Sl 1 intC w v BK) ∧ (listed.getD 19 false = true → ∃ v, a.tmps[48]? = some v ∧ Sl 1 intC w v BK)) (by kernel_rfl) ?_ ?_ ?_
  · exact ⟨Slots.start _ _ _ _, (Below.refl _ W).drew, fun h => (by rw [start_false] at h; cases h), fun h => (by rw [start_false] at h; cases h), fun h => (by rw [start_false] at h; cases h), fun h => (by rw [start_false] at h; cases h)⟩
  · intro listed a w i' hsl hilt hl hd hcl ⟨hS, hb, hA3, hA9, hA16, hA19⟩
    have hsz : Hid (a.tmps.size = 80) := hS.size.trans hsz0
    have hls : i' < listed.size := by rw [hsl]; exact hilt
    have hcase : i' = 0 ∨ i' = 1 ∨ i' = 2 ∨ i' = 3 ∨ i' = 4 ∨ i' = 5 ∨ i' = 6 ∨ i' = 7 ∨ i' = 8 ∨ i' = 9 ∨ i' = 10 ∨ i' = 11 ∨ i' = 12 ∨ i' = 13 ∨ i' = 14 ∨ i' = 15 ∨ i' = 16 ∨ i' = 17 ∨ i' = 18 ∨ i' = 19 ∨ i' = 20 ∨ i' = 21 ∨ i' = 22 ∨ i' = 23 ∨ i' = 24 ∨ i' = 25 ∨ i' = 26 ∨ i' = 27 ∨ i' = 28 ∨ i' = 29 ∨ i' = 30 ∨ i' = 31 ∨ i' = 32 ∨ i' = 33 ∨ i' = 34 ∨ i' = 35 ∨ i' = 36 ∨ i' = 37 ∨ i' = 38 ∨ i' = 39 ∨ i' = 40 ∨ i' = 41 ∨ i' = 42 ∨ i' = 43 ∨ i' = 44 ∨ i' = 45 ∨ i' = 46 ∨ i' = 47 ∨ i' = 48 ∨ i' = 49 ∨ i' = 50 ∨ i' = 51 := by
      have : i' < 52 := hilt
      omega
    rcases hcase with rfl | rfl | rfl | rfl | rfl | rfl | rfl | rfl | rfl | rfl | rfl | rfl | rfl | rfl | rfl | rfl | rfl | rfl | rfl | rfl | rfl | rfl | rfl | rfl | rfl | rfl | rfl | rfl | rfl | rfl | rfl | rfl | rfl | rfl | rfl | rfl | rfl | rfl | rfl | rfl | rfl | rfl | rfl | rfl | rfl | rfl | rfl | rfl | rfl | rfl | rfl | rfl
    ·
      refine wpOp_step (o := { dst := some 29, op := Op.call { callee := Callee.value (Operand.func 8), args := #[], argTypes := #[] }, type := 4, pos := "law.go:47", after := #[], guard := none }) rfl ?_
      intro K hK
      have hc := hc0 w hb
      go_simp
      go_at_call 8
      refine hc.mono ?_
      rintro e w' ⟨rfl, hb2⟩
      exact hK _ _ ⟨hS.put hn 0 29 _ rfl (by rw [hsz0]; omega) (fun u h => by injection h with h; injection h with h; exact h.symm), hb.trans (hb2.mono hb.size), fun h => by
        rw [getD_set hls, if_neg (by omega)] at h
        obtain ⟨v, hv1, hv2⟩ := hA3 h
        exact ⟨v, by simpa using hv1, hv2.next hb2⟩, fun h => by
        rw [getD_set hls, if_neg (by omega)] at h
        obtain ⟨v, hv1, hv2⟩ := hA9 h
        exact ⟨v, by simpa using hv1, hv2.next hb2⟩, fun h => by
        rw [getD_set hls, if_neg (by omega)] at h
        obtain ⟨v, hv1, hv2⟩ := hA16 h
        exact ⟨v, by simpa using hv1, hv2.next hb2⟩, fun h => by
        rw [getD_set hls, if_neg (by omega)] at h
        obtain ⟨v, hv1, hv2⟩ := hA19 h
        exact ⟨v, by simpa using hv1, hv2.next hb2⟩⟩
    ·
      refine wpOp_step (o := { dst := some 30, op := Op.move (Operand.tmp 29), type := 4, pos := "law.go:47", after := #[{ on := 0, ground := Ground.data }, { on := 0, ground := Ground.chain }], guard := none }) rfl ?_
      intro K hK
      have q29_ : a.tmps[29]? = some (.bool true) := hS.val 0 29 _ (hd 0 (of_decide_eq_true (by kernel_rfl))) rfl rfl
      go_simp
      exact hK _ _ ⟨hS.put hn 1 30 _ rfl (by rw [hsz0]; omega) (fun u h => by injection h with h; injection h with h; exact h.symm), hb, fun h => by
        rw [getD_set hls, if_neg (by omega)] at h
        obtain ⟨v, hv1, hv2⟩ := hA3 h
        exact ⟨v, by simpa using hv1, hv2⟩, fun h => by
        rw [getD_set hls, if_neg (by omega)] at h
        obtain ⟨v, hv1, hv2⟩ := hA9 h
        exact ⟨v, by simpa using hv1, hv2⟩, fun h => by
        rw [getD_set hls, if_neg (by omega)] at h
        obtain ⟨v, hv1, hv2⟩ := hA16 h
        exact ⟨v, by simpa using hv1, hv2⟩, fun h => by
        rw [getD_set hls, if_neg (by omega)] at h
        obtain ⟨v, hv1, hv2⟩ := hA19 h
        exact ⟨v, by simpa using hv1, hv2⟩⟩
    ·
      refine wpOp_step (o := { dst := some 31, op := Op.load 26 (Operand.tmp 2), type := 26, pos := "law.go:47", after := #[{ on := 1, ground := Ground.guard }], guard := some (1, true) }) rfl ?_
      intro K hK
      have q30_ : a.tmps[30]? = some (.bool true) := hS.val 1 30 _ (hd 1 (of_decide_eq_true (by kernel_rfl))) rfl rfl
      have q2_ : a.tmps[2]? = some (.pointer (some ⟨vb, 0, none⟩)) := (hS.keep 2 (of_decide_eq_true (by kernel_rfl))).trans h2_
      rw [if_pos (wanted_guard (j := 1) (d := 30) (b := true) rfl rfl q30_)]
      have m0 := (hx.next hb).cell 0 _ rfl
      have m1 := (hx.next hb).cell 1 _ rfl
      have m2 := (hx.next hb).cell 2 _ rfl
      have m3 := (hx.next hb).cell 3 _ rfl
      have m4 := (hx.next hb).cell 4 _ rfl
      go_simp
      exact hK _ _ ⟨hS.put hn 2 31 _ rfl (by rw [hsz0]; omega) (fun u h => by injection h with h; injection h with h; exact h.symm), hb, fun h => by
        rw [getD_set hls, if_neg (by omega)] at h
        obtain ⟨v, hv1, hv2⟩ := hA3 h
        exact ⟨v, by simpa using hv1, hv2⟩, fun h => by
        rw [getD_set hls, if_neg (by omega)] at h
        obtain ⟨v, hv1, hv2⟩ := hA9 h
        exact ⟨v, by simpa using hv1, hv2⟩, fun h => by
        rw [getD_set hls, if_neg (by omega)] at h
        obtain ⟨v, hv1, hv2⟩ := hA16 h
        exact ⟨v, by simpa using hv1, hv2⟩, fun h => by
        rw [getD_set hls, if_neg (by omega)] at h
        obtain ⟨v, hv1, hv2⟩ := hA19 h
        exact ⟨v, by simpa using hv1, hv2⟩⟩
    ·
      refine wpOp_step (o := { dst := some 32, op := Op.call { callee := Callee.value (Operand.func 11), args := #[Operand.tmp 31], argTypes := #[26] }, type := 29, pos := "law.go:47", after := #[{ on := 2, ground := Ground.data }, { on := 1, ground := Ground.chain }, { on := 1, ground := Ground.guard }], guard := some (1, true) }) rfl ?_
      intro K hK
      have q30_ : a.tmps[30]? = some (.bool true) := hS.val 1 30 _ (hd 1 (of_decide_eq_true (by kernel_rfl))) rfl rfl
      have q31_ : a.tmps[31]? = some (.agg #[.slice a1 n1 c1, .int .i64 gap, .int .i64 rad, .slice a2 n2 c2, .slice a3 n3 c3]) := hS.val 2 31 _ (hd 2 (of_decide_eq_true (by kernel_rfl))) rfl rfl
      rw [if_pos (wanted_guard (j := 1) (d := 30) (b := true) rfl rfl q30_)]
      have hc := hc3 w hb
      go_simp
      go_at_call 11
      refine hc.mono ?_
      rintro e w' ⟨v, rfl, hrow, hb2⟩
      have hs2 : 32 < a.tmps.size := by rw [hsz.out]; omega
      exact hK _ _ ⟨hS.put hn 3 32 _ rfl (by rw [hsz0]; omega) (fun u h => by cases h), hb.trans (hb2.mono hb.size), fun h => ⟨v, by simp [hs2], hrow⟩, fun h => by
        rw [getD_set hls, if_neg (by omega)] at h
        obtain ⟨v, hv1, hv2⟩ := hA9 h
        exact ⟨v, by simpa using hv1, hv2.next hb2⟩, fun h => by
        rw [getD_set hls, if_neg (by omega)] at h
        obtain ⟨v, hv1, hv2⟩ := hA16 h
        exact ⟨v, by simpa using hv1, hv2.next hb2⟩, fun h => by
        rw [getD_set hls, if_neg (by omega)] at h
        obtain ⟨v, hv1, hv2⟩ := hA19 h
        exact ⟨v, by simpa using hv1, hv2.next hb2⟩⟩
    ·
      refine wpOp_step (o := { dst := some 33, op := Op.move (Operand.tmp 5), type := 29, pos := "law.go:47", after := #[{ on := 1, ground := Ground.guard }], guard := some (1, true) }) rfl ?_
      intro K hK
      have q30_ : a.tmps[30]? = some (.bool true) := hS.val 1 30 _ (hd 1 (of_decide_eq_true (by kernel_rfl))) rfl rfl
      have q5_ : a.tmps[5]? = some (.slice u1 un uc) := (hS.keep 5 (of_decide_eq_true (by kernel_rfl))).trans h5_
      rw [if_pos (wanted_guard (j := 1) (d := 30) (b := true) rfl rfl q30_)]
      go_simp
      exact hK _ _ ⟨hS.put hn 4 33 _ rfl (by rw [hsz0]; omega) (fun u h => by injection h with h; injection h with h; exact h.symm), hb, fun h => by
        rw [getD_set hls, if_neg (by omega)] at h
        obtain ⟨v, hv1, hv2⟩ := hA3 h
        exact ⟨v, by simpa using hv1, hv2⟩, fun h => by
        rw [getD_set hls, if_neg (by omega)] at h
        obtain ⟨v, hv1, hv2⟩ := hA9 h
        exact ⟨v, by simpa using hv1, hv2⟩, fun h => by
        rw [getD_set hls, if_neg (by omega)] at h
        obtain ⟨v, hv1, hv2⟩ := hA16 h
        exact ⟨v, by simpa using hv1, hv2⟩, fun h => by
        rw [getD_set hls, if_neg (by omega)] at h
        obtain ⟨v, hv1, hv2⟩ := hA19 h
        exact ⟨v, by simpa using hv1, hv2⟩⟩
    ·
      refine wpOp_step (o := { dst := some 34, op := Op.call { callee := Callee.value (Operand.func 10), args := #[Operand.tmp 32, Operand.tmp 33], argTypes := #[29, 29] }, type := 4, pos := "law.go:47", after := #[{ on := 3, ground := Ground.data }, { on := 4, ground := Ground.data }, { on := 3, ground := Ground.chain }, { on := 1, ground := Ground.guard }], guard := some (1, true) }) rfl ?_
      intro K hK
      have q30_ : a.tmps[30]? = some (.bool true) := hS.val 1 30 _ (hd 1 (of_decide_eq_true (by kernel_rfl))) rfl rfl
      have q33_ : a.tmps[33]? = some (.slice u1 un uc) := hS.val 4 33 _ (hd 4 (of_decide_eq_true (by kernel_rfl))) rfl rfl
      rw [if_pos (wanted_guard (j := 1) (d := 30) (b := true) rfl rfl q30_)]
      obtain ⟨v0, hv0, hp0⟩ := hA3 (hd 3 (of_decide_eq_true (by kernel_rfl)))
      obtain ⟨ba, bn, bc, rfl, hbm⟩ := hp0
      have hc := bools_any UL _ _ _ _ _ _ w hbm (hKu.next hb)
      go_simp
      go_at_call 10
      refine hc.mono ?_
      rintro e w' ⟨rfl, hb2⟩
      exact hK _ _ ⟨hS.put hn 5 34 _ rfl (by rw [hsz0]; omega) (fun u h => by injection h with h; injection h with h; exact h.symm), hb.trans (hb2.mono hb.size), fun h => by
        rw [getD_set hls, if_neg (by omega)] at h
        obtain ⟨v, hv1, hv2⟩ := hA3 h
        exact ⟨v, by simpa using hv1, hv2.next hb2⟩, fun h => by
        rw [getD_set hls, if_neg (by omega)] at h
        obtain ⟨v, hv1, hv2⟩ := hA9 h
        exact ⟨v, by simpa using hv1, hv2.next hb2⟩, fun h => by
        rw [getD_set hls, if_neg (by omega)] at h
        obtain ⟨v, hv1, hv2⟩ := hA16 h
        exact ⟨v, by simpa using hv1, hv2.next hb2⟩, fun h => by
        rw [getD_set hls, if_neg (by omega)] at h
        obtain ⟨v, hv1, hv2⟩ := hA19 h
        exact ⟨v, by simpa using hv1, hv2.next hb2⟩⟩
    ·
      refine wpOp_step (o := { dst := some 35, op := Op.pick (Operand.tmp 30) (Operand.tmp 34) (Operand.const (Value.bool false)), type := 4, pos := "law.go:47", after := #[{ on := 1, ground := Ground.data }, { on := 5, ground := Ground.data }], guard := none }) rfl ?_
      intro K hK
      have q30_ : a.tmps[30]? = some (.bool true) := hS.val 1 30 _ (hd 1 (of_decide_eq_true (by kernel_rfl))) rfl rfl
      have q34_ : a.tmps[34]? = some (.bool true) := hS.val 5 34 _ (hd 5 (of_decide_eq_true (by kernel_rfl))) rfl rfl
      go_simp
      exact hK _ _ ⟨hS.put hn 6 35 _ rfl (by rw [hsz0]; omega) (fun u h => by injection h with h; injection h with h; exact h.symm), hb, fun h => by
        rw [getD_set hls, if_neg (by omega)] at h
        obtain ⟨v, hv1, hv2⟩ := hA3 h
        exact ⟨v, by simpa using hv1, hv2⟩, fun h => by
        rw [getD_set hls, if_neg (by omega)] at h
        obtain ⟨v, hv1, hv2⟩ := hA9 h
        exact ⟨v, by simpa using hv1, hv2⟩, fun h => by
        rw [getD_set hls, if_neg (by omega)] at h
        obtain ⟨v, hv1, hv2⟩ := hA16 h
        exact ⟨v, by simpa using hv1, hv2⟩, fun h => by
        rw [getD_set hls, if_neg (by omega)] at h
        obtain ⟨v, hv1, hv2⟩ := hA19 h
        exact ⟨v, by simpa using hv1, hv2⟩⟩
    ·
      refine wpOp_step (o := { dst := some 36, op := Op.move (Operand.tmp 35), type := 4, pos := "law.go:47", after := #[{ on := 6, ground := Ground.data }, { on := 5, ground := Ground.chain }], guard := none }) rfl ?_
      intro K hK
      have q35_ : a.tmps[35]? = some (.bool true) := hS.val 6 35 _ (hd 6 (of_decide_eq_true (by kernel_rfl))) rfl rfl
      go_simp
      exact hK _ _ ⟨hS.put hn 7 36 _ rfl (by rw [hsz0]; omega) (fun u h => by injection h with h; injection h with h; exact h.symm), hb, fun h => by
        rw [getD_set hls, if_neg (by omega)] at h
        obtain ⟨v, hv1, hv2⟩ := hA3 h
        exact ⟨v, by simpa using hv1, hv2⟩, fun h => by
        rw [getD_set hls, if_neg (by omega)] at h
        obtain ⟨v, hv1, hv2⟩ := hA9 h
        exact ⟨v, by simpa using hv1, hv2⟩, fun h => by
        rw [getD_set hls, if_neg (by omega)] at h
        obtain ⟨v, hv1, hv2⟩ := hA16 h
        exact ⟨v, by simpa using hv1, hv2⟩, fun h => by
        rw [getD_set hls, if_neg (by omega)] at h
        obtain ⟨v, hv1, hv2⟩ := hA19 h
        exact ⟨v, by simpa using hv1, hv2⟩⟩
    ·
      refine wpOp_step (o := { dst := some 37, op := Op.load 26 (Operand.tmp 2), type := 26, pos := "law.go:47", after := #[{ on := 7, ground := Ground.guard }], guard := some (7, true) }) rfl ?_
      intro K hK
      have q36_ : a.tmps[36]? = some (.bool true) := hS.val 7 36 _ (hd 7 (of_decide_eq_true (by kernel_rfl))) rfl rfl
      have q2_ : a.tmps[2]? = some (.pointer (some ⟨vb, 0, none⟩)) := (hS.keep 2 (of_decide_eq_true (by kernel_rfl))).trans h2_
      rw [if_pos (wanted_guard (j := 7) (d := 36) (b := true) rfl rfl q36_)]
      have m0 := (hx.next hb).cell 0 _ rfl
      have m1 := (hx.next hb).cell 1 _ rfl
      have m2 := (hx.next hb).cell 2 _ rfl
      have m3 := (hx.next hb).cell 3 _ rfl
      have m4 := (hx.next hb).cell 4 _ rfl
      go_simp
      exact hK _ _ ⟨hS.put hn 8 37 _ rfl (by rw [hsz0]; omega) (fun u h => by injection h with h; injection h with h; exact h.symm), hb, fun h => by
        rw [getD_set hls, if_neg (by omega)] at h
        obtain ⟨v, hv1, hv2⟩ := hA3 h
        exact ⟨v, by simpa using hv1, hv2⟩, fun h => by
        rw [getD_set hls, if_neg (by omega)] at h
        obtain ⟨v, hv1, hv2⟩ := hA9 h
        exact ⟨v, by simpa using hv1, hv2⟩, fun h => by
        rw [getD_set hls, if_neg (by omega)] at h
        obtain ⟨v, hv1, hv2⟩ := hA16 h
        exact ⟨v, by simpa using hv1, hv2⟩, fun h => by
        rw [getD_set hls, if_neg (by omega)] at h
        obtain ⟨v, hv1, hv2⟩ := hA19 h
        exact ⟨v, by simpa using hv1, hv2⟩⟩
    ·
      refine wpOp_step (o := { dst := some 38, op := Op.call { callee := Callee.value (Operand.func 13), args := #[Operand.tmp 37], argTypes := #[26] }, type := 23, pos := "law.go:47", after := #[{ on := 8, ground := Ground.data }, { on := 7, ground := Ground.chain }, { on := 7, ground := Ground.guard }], guard := some (7, true) }) rfl ?_
      intro K hK
      have q36_ : a.tmps[36]? = some (.bool true) := hS.val 7 36 _ (hd 7 (of_decide_eq_true (by kernel_rfl))) rfl rfl
      have q37_ : a.tmps[37]? = some (.agg #[.slice a1 n1 c1, .int .i64 gap, .int .i64 rad, .slice a2 n2 c2, .slice a3 n3 c3]) := hS.val 8 37 _ (hd 8 (of_decide_eq_true (by kernel_rfl))) rfl rfl
      rw [if_pos (wanted_guard (j := 7) (d := 36) (b := true) rfl rfl q36_)]
      have hc := hc9 w hb
      go_simp
      go_at_call 13
      refine hc.mono ?_
      rintro e w' ⟨v, rfl, hrow, hb2⟩
      have hs2 : 38 < a.tmps.size := by rw [hsz.out]; omega
      exact hK _ _ ⟨hS.put hn 9 38 _ rfl (by rw [hsz0]; omega) (fun u h => by cases h), hb.trans (hb2.mono hb.size), fun h => by
        rw [getD_set hls, if_neg (by omega)] at h
        obtain ⟨v, hv1, hv2⟩ := hA3 h
        exact ⟨v, by simpa using hv1, hv2.next hb2⟩, fun h => ⟨v, by simp [hs2], hrow⟩, fun h => by
        rw [getD_set hls, if_neg (by omega)] at h
        obtain ⟨v, hv1, hv2⟩ := hA16 h
        exact ⟨v, by simpa using hv1, hv2.next hb2⟩, fun h => by
        rw [getD_set hls, if_neg (by omega)] at h
        obtain ⟨v, hv1, hv2⟩ := hA19 h
        exact ⟨v, by simpa using hv1, hv2.next hb2⟩⟩
    ·
      refine wpOp_step (o := { dst := some 39, op := Op.move (Operand.tmp 6), type := 23, pos := "law.go:47", after := #[{ on := 7, ground := Ground.guard }], guard := some (7, true) }) rfl ?_
      intro K hK
      have q36_ : a.tmps[36]? = some (.bool true) := hS.val 7 36 _ (hd 7 (of_decide_eq_true (by kernel_rfl))) rfl rfl
      have q6_ : a.tmps[6]? = some (.slice la ln lc) := (hS.keep 6 (of_decide_eq_true (by kernel_rfl))).trans h6_
      rw [if_pos (wanted_guard (j := 7) (d := 36) (b := true) rfl rfl q36_)]
      go_simp
      exact hK _ _ ⟨hS.put hn 10 39 _ rfl (by rw [hsz0]; omega) (fun u h => by injection h with h; injection h with h; exact h.symm), hb, fun h => by
        rw [getD_set hls, if_neg (by omega)] at h
        obtain ⟨v, hv1, hv2⟩ := hA3 h
        exact ⟨v, by simpa using hv1, hv2⟩, fun h => by
        rw [getD_set hls, if_neg (by omega)] at h
        obtain ⟨v, hv1, hv2⟩ := hA9 h
        exact ⟨v, by simpa using hv1, hv2⟩, fun h => by
        rw [getD_set hls, if_neg (by omega)] at h
        obtain ⟨v, hv1, hv2⟩ := hA16 h
        exact ⟨v, by simpa using hv1, hv2⟩, fun h => by
        rw [getD_set hls, if_neg (by omega)] at h
        obtain ⟨v, hv1, hv2⟩ := hA19 h
        exact ⟨v, by simpa using hv1, hv2⟩⟩
    ·
      refine wpOp_step (o := { dst := some 40, op := Op.call { callee := Callee.value (Operand.func 12), args := #[Operand.tmp 38, Operand.tmp 39], argTypes := #[23, 23] }, type := 4, pos := "law.go:47", after := #[{ on := 9, ground := Ground.data }, { on := 10, ground := Ground.data }, { on := 9, ground := Ground.chain }, { on := 7, ground := Ground.guard }], guard := some (7, true) }) rfl ?_
      intro K hK
      have q36_ : a.tmps[36]? = some (.bool true) := hS.val 7 36 _ (hd 7 (of_decide_eq_true (by kernel_rfl))) rfl rfl
      have q39_ : a.tmps[39]? = some (.slice la ln lc) := hS.val 10 39 _ (hd 10 (of_decide_eq_true (by kernel_rfl))) rfl rfl
      rw [if_pos (wanted_guard (j := 7) (d := 36) (b := true) rfl rfl q36_)]
      obtain ⟨v0, hv0, hp0⟩ := hA9 (hd 9 (of_decide_eq_true (by kernel_rfl)))
      have hc := Com.same_any KL KL v0 _ w hp0 (hKl.next hb)
      rw [decide_eq_true rfl] at hc
      go_simp
      go_at_call 12
      refine hc.mono ?_
      rintro e w' ⟨rfl, hb2⟩
      exact hK _ _ ⟨hS.put hn 11 40 _ rfl (by rw [hsz0]; omega) (fun u h => by injection h with h; injection h with h; exact h.symm), hb.trans (hb2.mono hb.size), fun h => by
        rw [getD_set hls, if_neg (by omega)] at h
        obtain ⟨v, hv1, hv2⟩ := hA3 h
        exact ⟨v, by simpa using hv1, hv2.next hb2⟩, fun h => by
        rw [getD_set hls, if_neg (by omega)] at h
        obtain ⟨v, hv1, hv2⟩ := hA9 h
        exact ⟨v, by simpa using hv1, hv2.next hb2⟩, fun h => by
        rw [getD_set hls, if_neg (by omega)] at h
        obtain ⟨v, hv1, hv2⟩ := hA16 h
        exact ⟨v, by simpa using hv1, hv2.next hb2⟩, fun h => by
        rw [getD_set hls, if_neg (by omega)] at h
        obtain ⟨v, hv1, hv2⟩ := hA19 h
        exact ⟨v, by simpa using hv1, hv2.next hb2⟩⟩
    ·
      refine wpOp_step (o := { dst := some 41, op := Op.pick (Operand.tmp 36) (Operand.tmp 40) (Operand.const (Value.bool false)), type := 4, pos := "law.go:47", after := #[{ on := 7, ground := Ground.data }, { on := 11, ground := Ground.data }], guard := none }) rfl ?_
      intro K hK
      have q36_ : a.tmps[36]? = some (.bool true) := hS.val 7 36 _ (hd 7 (of_decide_eq_true (by kernel_rfl))) rfl rfl
      have q40_ : a.tmps[40]? = some (.bool true) := hS.val 11 40 _ (hd 11 (of_decide_eq_true (by kernel_rfl))) rfl rfl
      go_simp
      exact hK _ _ ⟨hS.put hn 12 41 _ rfl (by rw [hsz0]; omega) (fun u h => by injection h with h; injection h with h; exact h.symm), hb, fun h => by
        rw [getD_set hls, if_neg (by omega)] at h
        obtain ⟨v, hv1, hv2⟩ := hA3 h
        exact ⟨v, by simpa using hv1, hv2⟩, fun h => by
        rw [getD_set hls, if_neg (by omega)] at h
        obtain ⟨v, hv1, hv2⟩ := hA9 h
        exact ⟨v, by simpa using hv1, hv2⟩, fun h => by
        rw [getD_set hls, if_neg (by omega)] at h
        obtain ⟨v, hv1, hv2⟩ := hA16 h
        exact ⟨v, by simpa using hv1, hv2⟩, fun h => by
        rw [getD_set hls, if_neg (by omega)] at h
        obtain ⟨v, hv1, hv2⟩ := hA19 h
        exact ⟨v, by simpa using hv1, hv2⟩⟩
    ·
      refine wpOp_step (o := { dst := some 42, op := Op.move (Operand.tmp 41), type := 4, pos := "law.go:47", after := #[{ on := 12, ground := Ground.data }, { on := 11, ground := Ground.chain }], guard := none }) rfl ?_
      intro K hK
      have q41_ : a.tmps[41]? = some (.bool true) := hS.val 12 41 _ (hd 12 (of_decide_eq_true (by kernel_rfl))) rfl rfl
      go_simp
      exact hK _ _ ⟨hS.put hn 13 42 _ rfl (by rw [hsz0]; omega) (fun u h => by injection h with h; injection h with h; exact h.symm), hb, fun h => by
        rw [getD_set hls, if_neg (by omega)] at h
        obtain ⟨v, hv1, hv2⟩ := hA3 h
        exact ⟨v, by simpa using hv1, hv2⟩, fun h => by
        rw [getD_set hls, if_neg (by omega)] at h
        obtain ⟨v, hv1, hv2⟩ := hA9 h
        exact ⟨v, by simpa using hv1, hv2⟩, fun h => by
        rw [getD_set hls, if_neg (by omega)] at h
        obtain ⟨v, hv1, hv2⟩ := hA16 h
        exact ⟨v, by simpa using hv1, hv2⟩, fun h => by
        rw [getD_set hls, if_neg (by omega)] at h
        obtain ⟨v, hv1, hv2⟩ := hA19 h
        exact ⟨v, by simpa using hv1, hv2⟩⟩
    ·
      refine wpOp_step (o := { dst := some 43, op := Op.load 26 (Operand.tmp 2), type := 26, pos := "law.go:47", after := #[{ on := 13, ground := Ground.guard }], guard := some (13, true) }) rfl ?_
      intro K hK
      have q42_ : a.tmps[42]? = some (.bool true) := hS.val 13 42 _ (hd 13 (of_decide_eq_true (by kernel_rfl))) rfl rfl
      have q2_ : a.tmps[2]? = some (.pointer (some ⟨vb, 0, none⟩)) := (hS.keep 2 (of_decide_eq_true (by kernel_rfl))).trans h2_
      rw [if_pos (wanted_guard (j := 13) (d := 42) (b := true) rfl rfl q42_)]
      have m0 := (hx.next hb).cell 0 _ rfl
      have m1 := (hx.next hb).cell 1 _ rfl
      have m2 := (hx.next hb).cell 2 _ rfl
      have m3 := (hx.next hb).cell 3 _ rfl
      have m4 := (hx.next hb).cell 4 _ rfl
      go_simp
      exact hK _ _ ⟨hS.put hn 14 43 _ rfl (by rw [hsz0]; omega) (fun u h => by injection h with h; injection h with h; exact h.symm), hb, fun h => by
        rw [getD_set hls, if_neg (by omega)] at h
        obtain ⟨v, hv1, hv2⟩ := hA3 h
        exact ⟨v, by simpa using hv1, hv2⟩, fun h => by
        rw [getD_set hls, if_neg (by omega)] at h
        obtain ⟨v, hv1, hv2⟩ := hA9 h
        exact ⟨v, by simpa using hv1, hv2⟩, fun h => by
        rw [getD_set hls, if_neg (by omega)] at h
        obtain ⟨v, hv1, hv2⟩ := hA16 h
        exact ⟨v, by simpa using hv1, hv2⟩, fun h => by
        rw [getD_set hls, if_neg (by omega)] at h
        obtain ⟨v, hv1, hv2⟩ := hA19 h
        exact ⟨v, by simpa using hv1, hv2⟩⟩
    ·
      refine wpOp_step (o := { dst := some 44, op := Op.move (Operand.tmp 1), type := 3, pos := "law.go:47", after := #[{ on := 13, ground := Ground.guard }], guard := some (13, true) }) rfl ?_
      intro K hK
      have q42_ : a.tmps[42]? = some (.bool true) := hS.val 13 42 _ (hd 13 (of_decide_eq_true (by kernel_rfl))) rfl rfl
      have q1_ : a.tmps[1]? = some (.int .i64 kk) := (hS.keep 1 (of_decide_eq_true (by kernel_rfl))).trans h1_
      rw [if_pos (wanted_guard (j := 13) (d := 42) (b := true) rfl rfl q42_)]
      go_simp
      exact hK _ _ ⟨hS.put hn 15 44 _ rfl (by rw [hsz0]; omega) (fun u h => by injection h with h; injection h with h; exact h.symm), hb, fun h => by
        rw [getD_set hls, if_neg (by omega)] at h
        obtain ⟨v, hv1, hv2⟩ := hA3 h
        exact ⟨v, by simpa using hv1, hv2⟩, fun h => by
        rw [getD_set hls, if_neg (by omega)] at h
        obtain ⟨v, hv1, hv2⟩ := hA9 h
        exact ⟨v, by simpa using hv1, hv2⟩, fun h => by
        rw [getD_set hls, if_neg (by omega)] at h
        obtain ⟨v, hv1, hv2⟩ := hA16 h
        exact ⟨v, by simpa using hv1, hv2⟩, fun h => by
        rw [getD_set hls, if_neg (by omega)] at h
        obtain ⟨v, hv1, hv2⟩ := hA19 h
        exact ⟨v, by simpa using hv1, hv2⟩⟩
    ·
      refine wpOp_step (o := { dst := some 45, op := Op.call { callee := Callee.value (Operand.func 14), args := #[Operand.tmp 43, Operand.tmp 44], argTypes := #[26, 3] }, type := 23, pos := "law.go:47", after := #[{ on := 14, ground := Ground.data }, { on := 15, ground := Ground.data }, { on := 13, ground := Ground.chain }, { on := 13, ground := Ground.guard }], guard := some (13, true) }) rfl ?_
      intro K hK
      have q42_ : a.tmps[42]? = some (.bool true) := hS.val 13 42 _ (hd 13 (of_decide_eq_true (by kernel_rfl))) rfl rfl
      have q43_ : a.tmps[43]? = some (.agg #[.slice a1 n1 c1, .int .i64 gap, .int .i64 rad, .slice a2 n2 c2, .slice a3 n3 c3]) := hS.val 14 43 _ (hd 14 (of_decide_eq_true (by kernel_rfl))) rfl rfl
      have q44_ : a.tmps[44]? = some (.int .i64 kk) := hS.val 15 44 _ (hd 15 (of_decide_eq_true (by kernel_rfl))) rfl rfl
      rw [if_pos (wanted_guard (j := 13) (d := 42) (b := true) rfl rfl q42_)]
      have hc := hc16 w hb
      go_simp
      go_at_call 14
      refine hc.mono ?_
      rintro e w' ⟨v, rfl, hrow, hb2⟩
      have hs2 : 45 < a.tmps.size := by rw [hsz.out]; omega
      exact hK _ _ ⟨hS.put hn 16 45 _ rfl (by rw [hsz0]; omega) (fun u h => by cases h), hb.trans (hb2.mono hb.size), fun h => by
        rw [getD_set hls, if_neg (by omega)] at h
        obtain ⟨v, hv1, hv2⟩ := hA3 h
        exact ⟨v, by simpa using hv1, hv2.next hb2⟩, fun h => by
        rw [getD_set hls, if_neg (by omega)] at h
        obtain ⟨v, hv1, hv2⟩ := hA9 h
        exact ⟨v, by simpa using hv1, hv2.next hb2⟩, fun h => ⟨v, by simp [hs2], hrow⟩, fun h => by
        rw [getD_set hls, if_neg (by omega)] at h
        obtain ⟨v, hv1, hv2⟩ := hA19 h
        exact ⟨v, by simpa using hv1, hv2.next hb2⟩⟩
    ·
      refine wpOp_step (o := { dst := some 46, op := Op.load 26 (Operand.tmp 2), type := 26, pos := "law.go:47", after := #[{ on := 13, ground := Ground.guard }], guard := some (13, true) }) rfl ?_
      intro K hK
      have q42_ : a.tmps[42]? = some (.bool true) := hS.val 13 42 _ (hd 13 (of_decide_eq_true (by kernel_rfl))) rfl rfl
      have q2_ : a.tmps[2]? = some (.pointer (some ⟨vb, 0, none⟩)) := (hS.keep 2 (of_decide_eq_true (by kernel_rfl))).trans h2_
      rw [if_pos (wanted_guard (j := 13) (d := 42) (b := true) rfl rfl q42_)]
      have m0 := (hx.next hb).cell 0 _ rfl
      have m1 := (hx.next hb).cell 1 _ rfl
      have m2 := (hx.next hb).cell 2 _ rfl
      have m3 := (hx.next hb).cell 3 _ rfl
      have m4 := (hx.next hb).cell 4 _ rfl
      go_simp
      exact hK _ _ ⟨hS.put hn 17 46 _ rfl (by rw [hsz0]; omega) (fun u h => by injection h with h; injection h with h; exact h.symm), hb, fun h => by
        rw [getD_set hls, if_neg (by omega)] at h
        obtain ⟨v, hv1, hv2⟩ := hA3 h
        exact ⟨v, by simpa using hv1, hv2⟩, fun h => by
        rw [getD_set hls, if_neg (by omega)] at h
        obtain ⟨v, hv1, hv2⟩ := hA9 h
        exact ⟨v, by simpa using hv1, hv2⟩, fun h => by
        rw [getD_set hls, if_neg (by omega)] at h
        obtain ⟨v, hv1, hv2⟩ := hA16 h
        exact ⟨v, by simpa using hv1, hv2⟩, fun h => by
        rw [getD_set hls, if_neg (by omega)] at h
        obtain ⟨v, hv1, hv2⟩ := hA19 h
        exact ⟨v, by simpa using hv1, hv2⟩⟩
    ·
      refine wpOp_step (o := { dst := some 47, op := Op.move (Operand.tmp 1), type := 3, pos := "law.go:47", after := #[{ on := 13, ground := Ground.guard }], guard := some (13, true) }) rfl ?_
      intro K hK
      have q42_ : a.tmps[42]? = some (.bool true) := hS.val 13 42 _ (hd 13 (of_decide_eq_true (by kernel_rfl))) rfl rfl
      have q1_ : a.tmps[1]? = some (.int .i64 kk) := (hS.keep 1 (of_decide_eq_true (by kernel_rfl))).trans h1_
      rw [if_pos (wanted_guard (j := 13) (d := 42) (b := true) rfl rfl q42_)]
      go_simp
      exact hK _ _ ⟨hS.put hn 18 47 _ rfl (by rw [hsz0]; omega) (fun u h => by injection h with h; injection h with h; exact h.symm), hb, fun h => by
        rw [getD_set hls, if_neg (by omega)] at h
        obtain ⟨v, hv1, hv2⟩ := hA3 h
        exact ⟨v, by simpa using hv1, hv2⟩, fun h => by
        rw [getD_set hls, if_neg (by omega)] at h
        obtain ⟨v, hv1, hv2⟩ := hA9 h
        exact ⟨v, by simpa using hv1, hv2⟩, fun h => by
        rw [getD_set hls, if_neg (by omega)] at h
        obtain ⟨v, hv1, hv2⟩ := hA16 h
        exact ⟨v, by simpa using hv1, hv2⟩, fun h => by
        rw [getD_set hls, if_neg (by omega)] at h
        obtain ⟨v, hv1, hv2⟩ := hA19 h
        exact ⟨v, by simpa using hv1, hv2⟩⟩
    ·
      refine wpOp_step (o := { dst := some 48, op := Op.call { callee := Callee.value (Operand.func 15), args := #[Operand.tmp 46, Operand.tmp 47], argTypes := #[26, 3] }, type := 23, pos := "law.go:47", after := #[{ on := 17, ground := Ground.data }, { on := 18, ground := Ground.data }, { on := 16, ground := Ground.chain }, { on := 13, ground := Ground.guard }], guard := some (13, true) }) rfl ?_
      intro K hK
      have q42_ : a.tmps[42]? = some (.bool true) := hS.val 13 42 _ (hd 13 (of_decide_eq_true (by kernel_rfl))) rfl rfl
      have q46_ : a.tmps[46]? = some (.agg #[.slice a1 n1 c1, .int .i64 gap, .int .i64 rad, .slice a2 n2 c2, .slice a3 n3 c3]) := hS.val 17 46 _ (hd 17 (of_decide_eq_true (by kernel_rfl))) rfl rfl
      have q47_ : a.tmps[47]? = some (.int .i64 kk) := hS.val 18 47 _ (hd 18 (of_decide_eq_true (by kernel_rfl))) rfl rfl
      rw [if_pos (wanted_guard (j := 13) (d := 42) (b := true) rfl rfl q42_)]
      have hc := hc19 w hb
      go_simp
      go_at_call 15
      refine hc.mono ?_
      rintro e w' ⟨v, rfl, hrow, hb2⟩
      have hs2 : 48 < a.tmps.size := by rw [hsz.out]; omega
      exact hK _ _ ⟨hS.put hn 19 48 _ rfl (by rw [hsz0]; omega) (fun u h => by cases h), hb.trans (hb2.mono hb.size), fun h => by
        rw [getD_set hls, if_neg (by omega)] at h
        obtain ⟨v, hv1, hv2⟩ := hA3 h
        exact ⟨v, by simpa using hv1, hv2.next hb2⟩, fun h => by
        rw [getD_set hls, if_neg (by omega)] at h
        obtain ⟨v, hv1, hv2⟩ := hA9 h
        exact ⟨v, by simpa using hv1, hv2.next hb2⟩, fun h => by
        rw [getD_set hls, if_neg (by omega)] at h
        obtain ⟨v, hv1, hv2⟩ := hA16 h
        exact ⟨v, by simpa using hv1, hv2.next hb2⟩, fun h => ⟨v, by simp [hs2], hrow⟩⟩
    ·
      refine wpOp_step (o := { dst := some 49, op := Op.call { callee := Callee.value (Operand.func 12), args := #[Operand.tmp 45, Operand.tmp 48], argTypes := #[23, 23] }, type := 4, pos := "law.go:47", after := #[{ on := 16, ground := Ground.data }, { on := 19, ground := Ground.data }, { on := 19, ground := Ground.chain }, { on := 13, ground := Ground.guard }], guard := some (13, true) }) rfl ?_
      intro K hK
      have q42_ : a.tmps[42]? = some (.bool true) := hS.val 13 42 _ (hd 13 (of_decide_eq_true (by kernel_rfl))) rfl rfl
      rw [if_pos (wanted_guard (j := 13) (d := 42) (b := true) rfl rfl q42_)]
      obtain ⟨v0, hv0, hp0⟩ := hA16 (hd 16 (of_decide_eq_true (by kernel_rfl)))
      obtain ⟨v1, hv1, hp1⟩ := hA19 (hd 19 (of_decide_eq_true (by kernel_rfl)))
      have hc := Com.same_any BK BK v0 v1 w hp0 hp1
      rw [decide_eq_true rfl] at hc
      go_simp
      go_at_call 12
      refine hc.mono ?_
      rintro e w' ⟨rfl, hb2⟩
      exact hK _ _ ⟨hS.put hn 20 49 _ rfl (by rw [hsz0]; omega) (fun u h => by injection h with h; injection h with h; exact h.symm), hb.trans (hb2.mono hb.size), fun h => by
        rw [getD_set hls, if_neg (by omega)] at h
        obtain ⟨v, hv1, hv2⟩ := hA3 h
        exact ⟨v, by simpa using hv1, hv2.next hb2⟩, fun h => by
        rw [getD_set hls, if_neg (by omega)] at h
        obtain ⟨v, hv1, hv2⟩ := hA9 h
        exact ⟨v, by simpa using hv1, hv2.next hb2⟩, fun h => by
        rw [getD_set hls, if_neg (by omega)] at h
        obtain ⟨v, hv1, hv2⟩ := hA16 h
        exact ⟨v, by simpa using hv1, hv2.next hb2⟩, fun h => by
        rw [getD_set hls, if_neg (by omega)] at h
        obtain ⟨v, hv1, hv2⟩ := hA19 h
        exact ⟨v, by simpa using hv1, hv2.next hb2⟩⟩
    ·
      refine wpOp_step (o := { dst := some 50, op := Op.pick (Operand.tmp 42) (Operand.tmp 49) (Operand.const (Value.bool false)), type := 4, pos := "law.go:47", after := #[{ on := 13, ground := Ground.data }, { on := 20, ground := Ground.data }], guard := none }) rfl ?_
      intro K hK
      have q42_ : a.tmps[42]? = some (.bool true) := hS.val 13 42 _ (hd 13 (of_decide_eq_true (by kernel_rfl))) rfl rfl
      have q49_ : a.tmps[49]? = some (.bool true) := hS.val 20 49 _ (hd 20 (of_decide_eq_true (by kernel_rfl))) rfl rfl
      go_simp
      exact hK _ _ ⟨hS.put hn 21 50 _ rfl (by rw [hsz0]; omega) (fun u h => by injection h with h; injection h with h; exact h.symm), hb, fun h => by
        rw [getD_set hls, if_neg (by omega)] at h
        obtain ⟨v, hv1, hv2⟩ := hA3 h
        exact ⟨v, by simpa using hv1, hv2⟩, fun h => by
        rw [getD_set hls, if_neg (by omega)] at h
        obtain ⟨v, hv1, hv2⟩ := hA9 h
        exact ⟨v, by simpa using hv1, hv2⟩, fun h => by
        rw [getD_set hls, if_neg (by omega)] at h
        obtain ⟨v, hv1, hv2⟩ := hA16 h
        exact ⟨v, by simpa using hv1, hv2⟩, fun h => by
        rw [getD_set hls, if_neg (by omega)] at h
        obtain ⟨v, hv1, hv2⟩ := hA19 h
        exact ⟨v, by simpa using hv1, hv2⟩⟩
    ·
      refine wpOp_step (o := { dst := some 51, op := Op.move (Operand.tmp 50), type := 4, pos := "law.go:47", after := #[{ on := 21, ground := Ground.data }, { on := 20, ground := Ground.chain }], guard := none }) rfl ?_
      intro K hK
      have q50_ : a.tmps[50]? = some (.bool true) := hS.val 21 50 _ (hd 21 (of_decide_eq_true (by kernel_rfl))) rfl rfl
      go_simp
      exact hK _ _ ⟨hS.put hn 22 51 _ rfl (by rw [hsz0]; omega) (fun u h => by injection h with h; injection h with h; exact h.symm), hb, fun h => by
        rw [getD_set hls, if_neg (by omega)] at h
        obtain ⟨v, hv1, hv2⟩ := hA3 h
        exact ⟨v, by simpa using hv1, hv2⟩, fun h => by
        rw [getD_set hls, if_neg (by omega)] at h
        obtain ⟨v, hv1, hv2⟩ := hA9 h
        exact ⟨v, by simpa using hv1, hv2⟩, fun h => by
        rw [getD_set hls, if_neg (by omega)] at h
        obtain ⟨v, hv1, hv2⟩ := hA16 h
        exact ⟨v, by simpa using hv1, hv2⟩, fun h => by
        rw [getD_set hls, if_neg (by omega)] at h
        obtain ⟨v, hv1, hv2⟩ := hA19 h
        exact ⟨v, by simpa using hv1, hv2⟩⟩
    ·
      refine wpOp_step (o := { dst := some 52, op := Op.fieldAddr 26 (Operand.tmp 2) 0, type := 0, pos := "law.go:47", after := #[{ on := 22, ground := Ground.guard }], guard := some (22, true) }) rfl ?_
      intro K hK
      have q51_ : a.tmps[51]? = some (.bool true) := hS.val 22 51 _ (hd 22 (of_decide_eq_true (by kernel_rfl))) rfl rfl
      have q2_ : a.tmps[2]? = some (.pointer (some ⟨vb, 0, none⟩)) := (hS.keep 2 (of_decide_eq_true (by kernel_rfl))).trans h2_
      rw [if_pos (wanted_guard (j := 22) (d := 51) (b := true) rfl rfl q51_)]
      go_simp
      exact hK _ _ ⟨hS.put hn 23 52 _ rfl (by rw [hsz0]; omega) (fun u h => by injection h with h; injection h with h; exact h.symm), hb, fun h => by
        rw [getD_set hls, if_neg (by omega)] at h
        obtain ⟨v, hv1, hv2⟩ := hA3 h
        exact ⟨v, by simpa using hv1, hv2⟩, fun h => by
        rw [getD_set hls, if_neg (by omega)] at h
        obtain ⟨v, hv1, hv2⟩ := hA9 h
        exact ⟨v, by simpa using hv1, hv2⟩, fun h => by
        rw [getD_set hls, if_neg (by omega)] at h
        obtain ⟨v, hv1, hv2⟩ := hA16 h
        exact ⟨v, by simpa using hv1, hv2⟩, fun h => by
        rw [getD_set hls, if_neg (by omega)] at h
        obtain ⟨v, hv1, hv2⟩ := hA19 h
        exact ⟨v, by simpa using hv1, hv2⟩⟩
    ·
      refine wpOp_step (o := { dst := some 53, op := Op.load 22 (Operand.tmp 52), type := 22, pos := "law.go:47", after := #[{ on := 23, ground := Ground.data }, { on := 22, ground := Ground.guard }], guard := some (22, true) }) rfl ?_
      intro K hK
      have q51_ : a.tmps[51]? = some (.bool true) := hS.val 22 51 _ (hd 22 (of_decide_eq_true (by kernel_rfl))) rfl rfl
      have q52_ : a.tmps[52]? = some (.pointer (some ⟨vb, 0, none⟩)) := hS.val 23 52 _ (hd 23 (of_decide_eq_true (by kernel_rfl))) rfl rfl
      rw [if_pos (wanted_guard (j := 22) (d := 51) (b := true) rfl rfl q51_)]
      have m0 := (hx.next hb).cell 0 _ rfl
      have m1 := (hx.next hb).cell 1 _ rfl
      have m2 := (hx.next hb).cell 2 _ rfl
      have m3 := (hx.next hb).cell 3 _ rfl
      have m4 := (hx.next hb).cell 4 _ rfl
      go_simp
      exact hK _ _ ⟨hS.put hn 24 53 _ rfl (by rw [hsz0]; omega) (fun u h => by injection h with h; injection h with h; exact h.symm), hb, fun h => by
        rw [getD_set hls, if_neg (by omega)] at h
        obtain ⟨v, hv1, hv2⟩ := hA3 h
        exact ⟨v, by simpa using hv1, hv2⟩, fun h => by
        rw [getD_set hls, if_neg (by omega)] at h
        obtain ⟨v, hv1, hv2⟩ := hA9 h
        exact ⟨v, by simpa using hv1, hv2⟩, fun h => by
        rw [getD_set hls, if_neg (by omega)] at h
        obtain ⟨v, hv1, hv2⟩ := hA16 h
        exact ⟨v, by simpa using hv1, hv2⟩, fun h => by
        rw [getD_set hls, if_neg (by omega)] at h
        obtain ⟨v, hv1, hv2⟩ := hA19 h
        exact ⟨v, by simpa using hv1, hv2⟩⟩
    ·
      refine wpOp_step (o := { dst := some 54, op := Op.call { callee := Callee.builtin Builtin.len, args := #[Operand.tmp 53], argTypes := #[22] }, type := 3, pos := "law.go:47", after := #[{ on := 24, ground := Ground.data }, { on := 22, ground := Ground.guard }], guard := some (22, true) }) rfl ?_
      intro K hK
      have q51_ : a.tmps[51]? = some (.bool true) := hS.val 22 51 _ (hd 22 (of_decide_eq_true (by kernel_rfl))) rfl rfl
      have q53_ : a.tmps[53]? = some (.slice a1 n1 c1) := hS.val 24 53 _ (hd 24 (of_decide_eq_true (by kernel_rfl))) rfl rfl
      rw [if_pos (wanted_guard (j := 22) (d := 51) (b := true) rfl rfl q51_)]
      go_simp
      exact hK _ _ ⟨hS.put hn 25 54 _ rfl (by rw [hsz0]; omega) (fun u h => by injection h with h; injection h with h; exact h.symm), hb, fun h => by
        rw [getD_set hls, if_neg (by omega)] at h
        obtain ⟨v, hv1, hv2⟩ := hA3 h
        exact ⟨v, by simpa using hv1, hv2⟩, fun h => by
        rw [getD_set hls, if_neg (by omega)] at h
        obtain ⟨v, hv1, hv2⟩ := hA9 h
        exact ⟨v, by simpa using hv1, hv2⟩, fun h => by
        rw [getD_set hls, if_neg (by omega)] at h
        obtain ⟨v, hv1, hv2⟩ := hA16 h
        exact ⟨v, by simpa using hv1, hv2⟩, fun h => by
        rw [getD_set hls, if_neg (by omega)] at h
        obtain ⟨v, hv1, hv2⟩ := hA19 h
        exact ⟨v, by simpa using hv1, hv2⟩⟩
    ·
      refine wpOp_step (o := { dst := some 55, op := Op.binOp BinOp.eql 3 (Operand.tmp 54) (Operand.const (Value.int IntKind.i64 0)) 3, type := 4, pos := "law.go:47", after := #[{ on := 25, ground := Ground.data }, { on := 22, ground := Ground.guard }], guard := some (22, true) }) rfl ?_
      intro K hK
      have q51_ : a.tmps[51]? = some (.bool true) := hS.val 22 51 _ (hd 22 (of_decide_eq_true (by kernel_rfl))) rfl rfl
      have q54_ : a.tmps[54]? = some (.int .i64 n1) := hS.val 25 54 _ (hd 25 (of_decide_eq_true (by kernel_rfl))) rfl rfl
      rw [if_pos (wanted_guard (j := 22) (d := 51) (b := true) rfl rfl q51_)]
      go_simp
      exact hK _ _ ⟨hS.put hn 26 55 _ rfl (by rw [hsz0]; omega) (fun u h => by injection h with h; injection h with h; exact h.symm), hb, fun h => by
        rw [getD_set hls, if_neg (by omega)] at h
        obtain ⟨v, hv1, hv2⟩ := hA3 h
        exact ⟨v, by simpa using hv1, hv2⟩, fun h => by
        rw [getD_set hls, if_neg (by omega)] at h
        obtain ⟨v, hv1, hv2⟩ := hA9 h
        exact ⟨v, by simpa using hv1, hv2⟩, fun h => by
        rw [getD_set hls, if_neg (by omega)] at h
        obtain ⟨v, hv1, hv2⟩ := hA16 h
        exact ⟨v, by simpa using hv1, hv2⟩, fun h => by
        rw [getD_set hls, if_neg (by omega)] at h
        obtain ⟨v, hv1, hv2⟩ := hA19 h
        exact ⟨v, by simpa using hv1, hv2⟩⟩
    ·
      refine wpOp_step (o := { dst := some 56, op := Op.move (Operand.tmp 55), type := 4, pos := "law.go:47", after := #[{ on := 26, ground := Ground.data }, { on := 22, ground := Ground.chain }, { on := 22, ground := Ground.guard }], guard := some (22, true) }) rfl ?_
      intro K hK
      have q51_ : a.tmps[51]? = some (.bool true) := hS.val 22 51 _ (hd 22 (of_decide_eq_true (by kernel_rfl))) rfl rfl
      have q55_ : a.tmps[55]? = some (.bool true) := hS.val 26 55 _ (hd 26 (of_decide_eq_true (by kernel_rfl))) rfl rfl
      rw [if_pos (wanted_guard (j := 22) (d := 51) (b := true) rfl rfl q51_)]
      go_simp
      exact hK _ _ ⟨hS.put hn 27 56 _ rfl (by rw [hsz0]; omega) (fun u h => by injection h with h; injection h with h; exact h.symm), hb, fun h => by
        rw [getD_set hls, if_neg (by omega)] at h
        obtain ⟨v, hv1, hv2⟩ := hA3 h
        exact ⟨v, by simpa using hv1, hv2⟩, fun h => by
        rw [getD_set hls, if_neg (by omega)] at h
        obtain ⟨v, hv1, hv2⟩ := hA9 h
        exact ⟨v, by simpa using hv1, hv2⟩, fun h => by
        rw [getD_set hls, if_neg (by omega)] at h
        obtain ⟨v, hv1, hv2⟩ := hA16 h
        exact ⟨v, by simpa using hv1, hv2⟩, fun h => by
        rw [getD_set hls, if_neg (by omega)] at h
        obtain ⟨v, hv1, hv2⟩ := hA19 h
        exact ⟨v, by simpa using hv1, hv2⟩⟩
    ·
      refine wpOp_step (o := { dst := some 57, op := Op.load 26 (Operand.tmp 2), type := 26, pos := "law.go:47", after := #[{ on := 27, ground := Ground.guard }], guard := some (27, false) }) rfl ?_
      intro K hK
      have q56_ : a.tmps[56]? = some (.bool true) := hS.val 27 56 _ (hd 27 (of_decide_eq_true (by kernel_rfl))) rfl rfl
      rw [if_neg (unwanted_guard (j := 27) (d := 56) (b := false) rfl rfl q56_)]
      exact hK { tmps := a.tmps.setIfInBounds 57 undef, defers := a.defers } w ⟨hS.put hn 28 57 _ rfl (by rw [hsz0]; omega) (fun u h => by injection h with h; injection h with h; exact h.symm), hb, fun h => by
        rw [getD_set hls, if_neg (by omega)] at h
        obtain ⟨v, hv1, hv2⟩ := hA3 h
        exact ⟨v, by simpa using hv1, hv2⟩, fun h => by
        rw [getD_set hls, if_neg (by omega)] at h
        obtain ⟨v, hv1, hv2⟩ := hA9 h
        exact ⟨v, by simpa using hv1, hv2⟩, fun h => by
        rw [getD_set hls, if_neg (by omega)] at h
        obtain ⟨v, hv1, hv2⟩ := hA16 h
        exact ⟨v, by simpa using hv1, hv2⟩, fun h => by
        rw [getD_set hls, if_neg (by omega)] at h
        obtain ⟨v, hv1, hv2⟩ := hA19 h
        exact ⟨v, by simpa using hv1, hv2⟩⟩
    ·
      refine wpOp_step (o := { dst := some 58, op := Op.move (Operand.tmp 1), type := 3, pos := "law.go:47", after := #[{ on := 27, ground := Ground.guard }], guard := some (27, false) }) rfl ?_
      intro K hK
      have q56_ : a.tmps[56]? = some (.bool true) := hS.val 27 56 _ (hd 27 (of_decide_eq_true (by kernel_rfl))) rfl rfl
      rw [if_neg (unwanted_guard (j := 27) (d := 56) (b := false) rfl rfl q56_)]
      exact hK { tmps := a.tmps.setIfInBounds 58 undef, defers := a.defers } w ⟨hS.put hn 29 58 _ rfl (by rw [hsz0]; omega) (fun u h => by injection h with h; injection h with h; exact h.symm), hb, fun h => by
        rw [getD_set hls, if_neg (by omega)] at h
        obtain ⟨v, hv1, hv2⟩ := hA3 h
        exact ⟨v, by simpa using hv1, hv2⟩, fun h => by
        rw [getD_set hls, if_neg (by omega)] at h
        obtain ⟨v, hv1, hv2⟩ := hA9 h
        exact ⟨v, by simpa using hv1, hv2⟩, fun h => by
        rw [getD_set hls, if_neg (by omega)] at h
        obtain ⟨v, hv1, hv2⟩ := hA16 h
        exact ⟨v, by simpa using hv1, hv2⟩, fun h => by
        rw [getD_set hls, if_neg (by omega)] at h
        obtain ⟨v, hv1, hv2⟩ := hA19 h
        exact ⟨v, by simpa using hv1, hv2⟩⟩
    ·
      refine wpOp_step (o := { dst := some 59, op := Op.convert 3 35 (Operand.tmp 58), type := 35, pos := "law.go:47", after := #[{ on := 29, ground := Ground.data }, { on := 27, ground := Ground.guard }], guard := some (27, false) }) rfl ?_
      intro K hK
      have q56_ : a.tmps[56]? = some (.bool true) := hS.val 27 56 _ (hd 27 (of_decide_eq_true (by kernel_rfl))) rfl rfl
      rw [if_neg (unwanted_guard (j := 27) (d := 56) (b := false) rfl rfl q56_)]
      exact hK { tmps := a.tmps.setIfInBounds 59 undef, defers := a.defers } w ⟨hS.put hn 30 59 _ rfl (by rw [hsz0]; omega) (fun u h => by injection h with h; injection h with h; exact h.symm), hb, fun h => by
        rw [getD_set hls, if_neg (by omega)] at h
        obtain ⟨v, hv1, hv2⟩ := hA3 h
        exact ⟨v, by simpa using hv1, hv2⟩, fun h => by
        rw [getD_set hls, if_neg (by omega)] at h
        obtain ⟨v, hv1, hv2⟩ := hA9 h
        exact ⟨v, by simpa using hv1, hv2⟩, fun h => by
        rw [getD_set hls, if_neg (by omega)] at h
        obtain ⟨v, hv1, hv2⟩ := hA16 h
        exact ⟨v, by simpa using hv1, hv2⟩, fun h => by
        rw [getD_set hls, if_neg (by omega)] at h
        obtain ⟨v, hv1, hv2⟩ := hA19 h
        exact ⟨v, by simpa using hv1, hv2⟩⟩
    ·
      refine wpOp_step (o := { dst := some 60, op := Op.fieldAddr 26 (Operand.tmp 2) 0, type := 0, pos := "law.go:47", after := #[{ on := 27, ground := Ground.guard }], guard := some (27, false) }) rfl ?_
      intro K hK
      have q56_ : a.tmps[56]? = some (.bool true) := hS.val 27 56 _ (hd 27 (of_decide_eq_true (by kernel_rfl))) rfl rfl
      rw [if_neg (unwanted_guard (j := 27) (d := 56) (b := false) rfl rfl q56_)]
      exact hK { tmps := a.tmps.setIfInBounds 60 undef, defers := a.defers } w ⟨hS.put hn 31 60 _ rfl (by rw [hsz0]; omega) (fun u h => by injection h with h; injection h with h; exact h.symm), hb, fun h => by
        rw [getD_set hls, if_neg (by omega)] at h
        obtain ⟨v, hv1, hv2⟩ := hA3 h
        exact ⟨v, by simpa using hv1, hv2⟩, fun h => by
        rw [getD_set hls, if_neg (by omega)] at h
        obtain ⟨v, hv1, hv2⟩ := hA9 h
        exact ⟨v, by simpa using hv1, hv2⟩, fun h => by
        rw [getD_set hls, if_neg (by omega)] at h
        obtain ⟨v, hv1, hv2⟩ := hA16 h
        exact ⟨v, by simpa using hv1, hv2⟩, fun h => by
        rw [getD_set hls, if_neg (by omega)] at h
        obtain ⟨v, hv1, hv2⟩ := hA19 h
        exact ⟨v, by simpa using hv1, hv2⟩⟩
    ·
      refine wpOp_step (o := { dst := some 61, op := Op.load 22 (Operand.tmp 60), type := 22, pos := "law.go:47", after := #[{ on := 31, ground := Ground.data }, { on := 27, ground := Ground.guard }], guard := some (27, false) }) rfl ?_
      intro K hK
      have q56_ : a.tmps[56]? = some (.bool true) := hS.val 27 56 _ (hd 27 (of_decide_eq_true (by kernel_rfl))) rfl rfl
      rw [if_neg (unwanted_guard (j := 27) (d := 56) (b := false) rfl rfl q56_)]
      exact hK { tmps := a.tmps.setIfInBounds 61 undef, defers := a.defers } w ⟨hS.put hn 32 61 _ rfl (by rw [hsz0]; omega) (fun u h => by injection h with h; injection h with h; exact h.symm), hb, fun h => by
        rw [getD_set hls, if_neg (by omega)] at h
        obtain ⟨v, hv1, hv2⟩ := hA3 h
        exact ⟨v, by simpa using hv1, hv2⟩, fun h => by
        rw [getD_set hls, if_neg (by omega)] at h
        obtain ⟨v, hv1, hv2⟩ := hA9 h
        exact ⟨v, by simpa using hv1, hv2⟩, fun h => by
        rw [getD_set hls, if_neg (by omega)] at h
        obtain ⟨v, hv1, hv2⟩ := hA16 h
        exact ⟨v, by simpa using hv1, hv2⟩, fun h => by
        rw [getD_set hls, if_neg (by omega)] at h
        obtain ⟨v, hv1, hv2⟩ := hA19 h
        exact ⟨v, by simpa using hv1, hv2⟩⟩
    ·
      refine wpOp_step (o := { dst := some 62, op := Op.call { callee := Callee.builtin Builtin.len, args := #[Operand.tmp 61], argTypes := #[22] }, type := 3, pos := "law.go:47", after := #[{ on := 32, ground := Ground.data }, { on := 27, ground := Ground.guard }], guard := some (27, false) }) rfl ?_
      intro K hK
      have q56_ : a.tmps[56]? = some (.bool true) := hS.val 27 56 _ (hd 27 (of_decide_eq_true (by kernel_rfl))) rfl rfl
      rw [if_neg (unwanted_guard (j := 27) (d := 56) (b := false) rfl rfl q56_)]
      exact hK { tmps := a.tmps.setIfInBounds 62 undef, defers := a.defers } w ⟨hS.put hn 33 62 _ rfl (by rw [hsz0]; omega) (fun u h => by injection h with h; injection h with h; exact h.symm), hb, fun h => by
        rw [getD_set hls, if_neg (by omega)] at h
        obtain ⟨v, hv1, hv2⟩ := hA3 h
        exact ⟨v, by simpa using hv1, hv2⟩, fun h => by
        rw [getD_set hls, if_neg (by omega)] at h
        obtain ⟨v, hv1, hv2⟩ := hA9 h
        exact ⟨v, by simpa using hv1, hv2⟩, fun h => by
        rw [getD_set hls, if_neg (by omega)] at h
        obtain ⟨v, hv1, hv2⟩ := hA16 h
        exact ⟨v, by simpa using hv1, hv2⟩, fun h => by
        rw [getD_set hls, if_neg (by omega)] at h
        obtain ⟨v, hv1, hv2⟩ := hA19 h
        exact ⟨v, by simpa using hv1, hv2⟩⟩
    ·
      refine wpOp_step (o := { dst := some 63, op := Op.convert 3 35 (Operand.tmp 62), type := 35, pos := "law.go:47", after := #[{ on := 33, ground := Ground.data }, { on := 27, ground := Ground.guard }], guard := some (27, false) }) rfl ?_
      intro K hK
      have q56_ : a.tmps[56]? = some (.bool true) := hS.val 27 56 _ (hd 27 (of_decide_eq_true (by kernel_rfl))) rfl rfl
      rw [if_neg (unwanted_guard (j := 27) (d := 56) (b := false) rfl rfl q56_)]
      exact hK { tmps := a.tmps.setIfInBounds 63 undef, defers := a.defers } w ⟨hS.put hn 34 63 _ rfl (by rw [hsz0]; omega) (fun u h => by injection h with h; injection h with h; exact h.symm), hb, fun h => by
        rw [getD_set hls, if_neg (by omega)] at h
        obtain ⟨v, hv1, hv2⟩ := hA3 h
        exact ⟨v, by simpa using hv1, hv2⟩, fun h => by
        rw [getD_set hls, if_neg (by omega)] at h
        obtain ⟨v, hv1, hv2⟩ := hA9 h
        exact ⟨v, by simpa using hv1, hv2⟩, fun h => by
        rw [getD_set hls, if_neg (by omega)] at h
        obtain ⟨v, hv1, hv2⟩ := hA16 h
        exact ⟨v, by simpa using hv1, hv2⟩, fun h => by
        rw [getD_set hls, if_neg (by omega)] at h
        obtain ⟨v, hv1, hv2⟩ := hA19 h
        exact ⟨v, by simpa using hv1, hv2⟩⟩
    ·
      refine wpOp_step (o := { dst := some 64, op := Op.binOp BinOp.rem 35 (Operand.tmp 59) (Operand.tmp 63) 35, type := 35, pos := "law.go:47", after := #[{ on := 30, ground := Ground.data }, { on := 34, ground := Ground.data }, { on := 27, ground := Ground.guard }], guard := some (27, false) }) rfl ?_
      intro K hK
      have q56_ : a.tmps[56]? = some (.bool true) := hS.val 27 56 _ (hd 27 (of_decide_eq_true (by kernel_rfl))) rfl rfl
      rw [if_neg (unwanted_guard (j := 27) (d := 56) (b := false) rfl rfl q56_)]
      exact hK { tmps := a.tmps.setIfInBounds 64 undef, defers := a.defers } w ⟨hS.put hn 35 64 _ rfl (by rw [hsz0]; omega) (fun u h => by injection h with h; injection h with h; exact h.symm), hb, fun h => by
        rw [getD_set hls, if_neg (by omega)] at h
        obtain ⟨v, hv1, hv2⟩ := hA3 h
        exact ⟨v, by simpa using hv1, hv2⟩, fun h => by
        rw [getD_set hls, if_neg (by omega)] at h
        obtain ⟨v, hv1, hv2⟩ := hA9 h
        exact ⟨v, by simpa using hv1, hv2⟩, fun h => by
        rw [getD_set hls, if_neg (by omega)] at h
        obtain ⟨v, hv1, hv2⟩ := hA16 h
        exact ⟨v, by simpa using hv1, hv2⟩, fun h => by
        rw [getD_set hls, if_neg (by omega)] at h
        obtain ⟨v, hv1, hv2⟩ := hA19 h
        exact ⟨v, by simpa using hv1, hv2⟩⟩
    ·
      refine wpOp_step (o := { dst := some 65, op := Op.convert 35 3 (Operand.tmp 64), type := 3, pos := "law.go:47", after := #[{ on := 35, ground := Ground.data }, { on := 27, ground := Ground.guard }], guard := some (27, false) }) rfl ?_
      intro K hK
      have q56_ : a.tmps[56]? = some (.bool true) := hS.val 27 56 _ (hd 27 (of_decide_eq_true (by kernel_rfl))) rfl rfl
      rw [if_neg (unwanted_guard (j := 27) (d := 56) (b := false) rfl rfl q56_)]
      exact hK { tmps := a.tmps.setIfInBounds 65 undef, defers := a.defers } w ⟨hS.put hn 36 65 _ rfl (by rw [hsz0]; omega) (fun u h => by injection h with h; injection h with h; exact h.symm), hb, fun h => by
        rw [getD_set hls, if_neg (by omega)] at h
        obtain ⟨v, hv1, hv2⟩ := hA3 h
        exact ⟨v, by simpa using hv1, hv2⟩, fun h => by
        rw [getD_set hls, if_neg (by omega)] at h
        obtain ⟨v, hv1, hv2⟩ := hA9 h
        exact ⟨v, by simpa using hv1, hv2⟩, fun h => by
        rw [getD_set hls, if_neg (by omega)] at h
        obtain ⟨v, hv1, hv2⟩ := hA16 h
        exact ⟨v, by simpa using hv1, hv2⟩, fun h => by
        rw [getD_set hls, if_neg (by omega)] at h
        obtain ⟨v, hv1, hv2⟩ := hA19 h
        exact ⟨v, by simpa using hv1, hv2⟩⟩
    ·
      refine wpOp_step (o := { dst := some 66, op := Op.call { callee := Callee.value (Operand.func 14), args := #[Operand.tmp 57, Operand.tmp 65], argTypes := #[26, 3] }, type := 23, pos := "law.go:47", after := #[{ on := 28, ground := Ground.data }, { on := 36, ground := Ground.data }, { on := 27, ground := Ground.chain }, { on := 27, ground := Ground.guard }], guard := some (27, false) }) rfl ?_
      intro K hK
      have q56_ : a.tmps[56]? = some (.bool true) := hS.val 27 56 _ (hd 27 (of_decide_eq_true (by kernel_rfl))) rfl rfl
      rw [if_neg (unwanted_guard (j := 27) (d := 56) (b := false) rfl rfl q56_)]
      exact hK { tmps := a.tmps.setIfInBounds 66 undef, defers := a.defers } w ⟨hS.put hn 37 66 _ rfl (by rw [hsz0]; omega) (fun u h => by injection h with h; injection h with h; exact h.symm), hb, fun h => by
        rw [getD_set hls, if_neg (by omega)] at h
        obtain ⟨v, hv1, hv2⟩ := hA3 h
        exact ⟨v, by simpa using hv1, hv2⟩, fun h => by
        rw [getD_set hls, if_neg (by omega)] at h
        obtain ⟨v, hv1, hv2⟩ := hA9 h
        exact ⟨v, by simpa using hv1, hv2⟩, fun h => by
        rw [getD_set hls, if_neg (by omega)] at h
        obtain ⟨v, hv1, hv2⟩ := hA16 h
        exact ⟨v, by simpa using hv1, hv2⟩, fun h => by
        rw [getD_set hls, if_neg (by omega)] at h
        obtain ⟨v, hv1, hv2⟩ := hA19 h
        exact ⟨v, by simpa using hv1, hv2⟩⟩
    ·
      refine wpOp_step (o := { dst := some 67, op := Op.load 26 (Operand.tmp 2), type := 26, pos := "law.go:47", after := #[{ on := 27, ground := Ground.guard }], guard := some (27, false) }) rfl ?_
      intro K hK
      have q56_ : a.tmps[56]? = some (.bool true) := hS.val 27 56 _ (hd 27 (of_decide_eq_true (by kernel_rfl))) rfl rfl
      rw [if_neg (unwanted_guard (j := 27) (d := 56) (b := false) rfl rfl q56_)]
      exact hK { tmps := a.tmps.setIfInBounds 67 undef, defers := a.defers } w ⟨hS.put hn 38 67 _ rfl (by rw [hsz0]; omega) (fun u h => by injection h with h; injection h with h; exact h.symm), hb, fun h => by
        rw [getD_set hls, if_neg (by omega)] at h
        obtain ⟨v, hv1, hv2⟩ := hA3 h
        exact ⟨v, by simpa using hv1, hv2⟩, fun h => by
        rw [getD_set hls, if_neg (by omega)] at h
        obtain ⟨v, hv1, hv2⟩ := hA9 h
        exact ⟨v, by simpa using hv1, hv2⟩, fun h => by
        rw [getD_set hls, if_neg (by omega)] at h
        obtain ⟨v, hv1, hv2⟩ := hA16 h
        exact ⟨v, by simpa using hv1, hv2⟩, fun h => by
        rw [getD_set hls, if_neg (by omega)] at h
        obtain ⟨v, hv1, hv2⟩ := hA19 h
        exact ⟨v, by simpa using hv1, hv2⟩⟩
    ·
      refine wpOp_step (o := { dst := some 68, op := Op.move (Operand.tmp 1), type := 3, pos := "law.go:47", after := #[{ on := 27, ground := Ground.guard }], guard := some (27, false) }) rfl ?_
      intro K hK
      have q56_ : a.tmps[56]? = some (.bool true) := hS.val 27 56 _ (hd 27 (of_decide_eq_true (by kernel_rfl))) rfl rfl
      rw [if_neg (unwanted_guard (j := 27) (d := 56) (b := false) rfl rfl q56_)]
      exact hK { tmps := a.tmps.setIfInBounds 68 undef, defers := a.defers } w ⟨hS.put hn 39 68 _ rfl (by rw [hsz0]; omega) (fun u h => by injection h with h; injection h with h; exact h.symm), hb, fun h => by
        rw [getD_set hls, if_neg (by omega)] at h
        obtain ⟨v, hv1, hv2⟩ := hA3 h
        exact ⟨v, by simpa using hv1, hv2⟩, fun h => by
        rw [getD_set hls, if_neg (by omega)] at h
        obtain ⟨v, hv1, hv2⟩ := hA9 h
        exact ⟨v, by simpa using hv1, hv2⟩, fun h => by
        rw [getD_set hls, if_neg (by omega)] at h
        obtain ⟨v, hv1, hv2⟩ := hA16 h
        exact ⟨v, by simpa using hv1, hv2⟩, fun h => by
        rw [getD_set hls, if_neg (by omega)] at h
        obtain ⟨v, hv1, hv2⟩ := hA19 h
        exact ⟨v, by simpa using hv1, hv2⟩⟩
    ·
      refine wpOp_step (o := { dst := some 69, op := Op.convert 3 35 (Operand.tmp 68), type := 35, pos := "law.go:47", after := #[{ on := 39, ground := Ground.data }, { on := 27, ground := Ground.guard }], guard := some (27, false) }) rfl ?_
      intro K hK
      have q56_ : a.tmps[56]? = some (.bool true) := hS.val 27 56 _ (hd 27 (of_decide_eq_true (by kernel_rfl))) rfl rfl
      rw [if_neg (unwanted_guard (j := 27) (d := 56) (b := false) rfl rfl q56_)]
      exact hK { tmps := a.tmps.setIfInBounds 69 undef, defers := a.defers } w ⟨hS.put hn 40 69 _ rfl (by rw [hsz0]; omega) (fun u h => by injection h with h; injection h with h; exact h.symm), hb, fun h => by
        rw [getD_set hls, if_neg (by omega)] at h
        obtain ⟨v, hv1, hv2⟩ := hA3 h
        exact ⟨v, by simpa using hv1, hv2⟩, fun h => by
        rw [getD_set hls, if_neg (by omega)] at h
        obtain ⟨v, hv1, hv2⟩ := hA9 h
        exact ⟨v, by simpa using hv1, hv2⟩, fun h => by
        rw [getD_set hls, if_neg (by omega)] at h
        obtain ⟨v, hv1, hv2⟩ := hA16 h
        exact ⟨v, by simpa using hv1, hv2⟩, fun h => by
        rw [getD_set hls, if_neg (by omega)] at h
        obtain ⟨v, hv1, hv2⟩ := hA19 h
        exact ⟨v, by simpa using hv1, hv2⟩⟩
    ·
      refine wpOp_step (o := { dst := some 70, op := Op.fieldAddr 26 (Operand.tmp 2) 0, type := 0, pos := "law.go:47", after := #[{ on := 27, ground := Ground.guard }], guard := some (27, false) }) rfl ?_
      intro K hK
      have q56_ : a.tmps[56]? = some (.bool true) := hS.val 27 56 _ (hd 27 (of_decide_eq_true (by kernel_rfl))) rfl rfl
      rw [if_neg (unwanted_guard (j := 27) (d := 56) (b := false) rfl rfl q56_)]
      exact hK { tmps := a.tmps.setIfInBounds 70 undef, defers := a.defers } w ⟨hS.put hn 41 70 _ rfl (by rw [hsz0]; omega) (fun u h => by injection h with h; injection h with h; exact h.symm), hb, fun h => by
        rw [getD_set hls, if_neg (by omega)] at h
        obtain ⟨v, hv1, hv2⟩ := hA3 h
        exact ⟨v, by simpa using hv1, hv2⟩, fun h => by
        rw [getD_set hls, if_neg (by omega)] at h
        obtain ⟨v, hv1, hv2⟩ := hA9 h
        exact ⟨v, by simpa using hv1, hv2⟩, fun h => by
        rw [getD_set hls, if_neg (by omega)] at h
        obtain ⟨v, hv1, hv2⟩ := hA16 h
        exact ⟨v, by simpa using hv1, hv2⟩, fun h => by
        rw [getD_set hls, if_neg (by omega)] at h
        obtain ⟨v, hv1, hv2⟩ := hA19 h
        exact ⟨v, by simpa using hv1, hv2⟩⟩
    ·
      refine wpOp_step (o := { dst := some 71, op := Op.load 22 (Operand.tmp 70), type := 22, pos := "law.go:47", after := #[{ on := 41, ground := Ground.data }, { on := 27, ground := Ground.guard }], guard := some (27, false) }) rfl ?_
      intro K hK
      have q56_ : a.tmps[56]? = some (.bool true) := hS.val 27 56 _ (hd 27 (of_decide_eq_true (by kernel_rfl))) rfl rfl
      rw [if_neg (unwanted_guard (j := 27) (d := 56) (b := false) rfl rfl q56_)]
      exact hK { tmps := a.tmps.setIfInBounds 71 undef, defers := a.defers } w ⟨hS.put hn 42 71 _ rfl (by rw [hsz0]; omega) (fun u h => by injection h with h; injection h with h; exact h.symm), hb, fun h => by
        rw [getD_set hls, if_neg (by omega)] at h
        obtain ⟨v, hv1, hv2⟩ := hA3 h
        exact ⟨v, by simpa using hv1, hv2⟩, fun h => by
        rw [getD_set hls, if_neg (by omega)] at h
        obtain ⟨v, hv1, hv2⟩ := hA9 h
        exact ⟨v, by simpa using hv1, hv2⟩, fun h => by
        rw [getD_set hls, if_neg (by omega)] at h
        obtain ⟨v, hv1, hv2⟩ := hA16 h
        exact ⟨v, by simpa using hv1, hv2⟩, fun h => by
        rw [getD_set hls, if_neg (by omega)] at h
        obtain ⟨v, hv1, hv2⟩ := hA19 h
        exact ⟨v, by simpa using hv1, hv2⟩⟩
    ·
      refine wpOp_step (o := { dst := some 72, op := Op.call { callee := Callee.builtin Builtin.len, args := #[Operand.tmp 71], argTypes := #[22] }, type := 3, pos := "law.go:47", after := #[{ on := 42, ground := Ground.data }, { on := 27, ground := Ground.guard }], guard := some (27, false) }) rfl ?_
      intro K hK
      have q56_ : a.tmps[56]? = some (.bool true) := hS.val 27 56 _ (hd 27 (of_decide_eq_true (by kernel_rfl))) rfl rfl
      rw [if_neg (unwanted_guard (j := 27) (d := 56) (b := false) rfl rfl q56_)]
      exact hK { tmps := a.tmps.setIfInBounds 72 undef, defers := a.defers } w ⟨hS.put hn 43 72 _ rfl (by rw [hsz0]; omega) (fun u h => by injection h with h; injection h with h; exact h.symm), hb, fun h => by
        rw [getD_set hls, if_neg (by omega)] at h
        obtain ⟨v, hv1, hv2⟩ := hA3 h
        exact ⟨v, by simpa using hv1, hv2⟩, fun h => by
        rw [getD_set hls, if_neg (by omega)] at h
        obtain ⟨v, hv1, hv2⟩ := hA9 h
        exact ⟨v, by simpa using hv1, hv2⟩, fun h => by
        rw [getD_set hls, if_neg (by omega)] at h
        obtain ⟨v, hv1, hv2⟩ := hA16 h
        exact ⟨v, by simpa using hv1, hv2⟩, fun h => by
        rw [getD_set hls, if_neg (by omega)] at h
        obtain ⟨v, hv1, hv2⟩ := hA19 h
        exact ⟨v, by simpa using hv1, hv2⟩⟩
    ·
      refine wpOp_step (o := { dst := some 73, op := Op.convert 3 35 (Operand.tmp 72), type := 35, pos := "law.go:47", after := #[{ on := 43, ground := Ground.data }, { on := 27, ground := Ground.guard }], guard := some (27, false) }) rfl ?_
      intro K hK
      have q56_ : a.tmps[56]? = some (.bool true) := hS.val 27 56 _ (hd 27 (of_decide_eq_true (by kernel_rfl))) rfl rfl
      rw [if_neg (unwanted_guard (j := 27) (d := 56) (b := false) rfl rfl q56_)]
      exact hK { tmps := a.tmps.setIfInBounds 73 undef, defers := a.defers } w ⟨hS.put hn 44 73 _ rfl (by rw [hsz0]; omega) (fun u h => by injection h with h; injection h with h; exact h.symm), hb, fun h => by
        rw [getD_set hls, if_neg (by omega)] at h
        obtain ⟨v, hv1, hv2⟩ := hA3 h
        exact ⟨v, by simpa using hv1, hv2⟩, fun h => by
        rw [getD_set hls, if_neg (by omega)] at h
        obtain ⟨v, hv1, hv2⟩ := hA9 h
        exact ⟨v, by simpa using hv1, hv2⟩, fun h => by
        rw [getD_set hls, if_neg (by omega)] at h
        obtain ⟨v, hv1, hv2⟩ := hA16 h
        exact ⟨v, by simpa using hv1, hv2⟩, fun h => by
        rw [getD_set hls, if_neg (by omega)] at h
        obtain ⟨v, hv1, hv2⟩ := hA19 h
        exact ⟨v, by simpa using hv1, hv2⟩⟩
    ·
      refine wpOp_step (o := { dst := some 74, op := Op.binOp BinOp.rem 35 (Operand.tmp 69) (Operand.tmp 73) 35, type := 35, pos := "law.go:47", after := #[{ on := 40, ground := Ground.data }, { on := 44, ground := Ground.data }, { on := 27, ground := Ground.guard }], guard := some (27, false) }) rfl ?_
      intro K hK
      have q56_ : a.tmps[56]? = some (.bool true) := hS.val 27 56 _ (hd 27 (of_decide_eq_true (by kernel_rfl))) rfl rfl
      rw [if_neg (unwanted_guard (j := 27) (d := 56) (b := false) rfl rfl q56_)]
      exact hK { tmps := a.tmps.setIfInBounds 74 undef, defers := a.defers } w ⟨hS.put hn 45 74 _ rfl (by rw [hsz0]; omega) (fun u h => by injection h with h; injection h with h; exact h.symm), hb, fun h => by
        rw [getD_set hls, if_neg (by omega)] at h
        obtain ⟨v, hv1, hv2⟩ := hA3 h
        exact ⟨v, by simpa using hv1, hv2⟩, fun h => by
        rw [getD_set hls, if_neg (by omega)] at h
        obtain ⟨v, hv1, hv2⟩ := hA9 h
        exact ⟨v, by simpa using hv1, hv2⟩, fun h => by
        rw [getD_set hls, if_neg (by omega)] at h
        obtain ⟨v, hv1, hv2⟩ := hA16 h
        exact ⟨v, by simpa using hv1, hv2⟩, fun h => by
        rw [getD_set hls, if_neg (by omega)] at h
        obtain ⟨v, hv1, hv2⟩ := hA19 h
        exact ⟨v, by simpa using hv1, hv2⟩⟩
    ·
      refine wpOp_step (o := { dst := some 75, op := Op.convert 35 3 (Operand.tmp 74), type := 3, pos := "law.go:47", after := #[{ on := 45, ground := Ground.data }, { on := 27, ground := Ground.guard }], guard := some (27, false) }) rfl ?_
      intro K hK
      have q56_ : a.tmps[56]? = some (.bool true) := hS.val 27 56 _ (hd 27 (of_decide_eq_true (by kernel_rfl))) rfl rfl
      rw [if_neg (unwanted_guard (j := 27) (d := 56) (b := false) rfl rfl q56_)]
      exact hK { tmps := a.tmps.setIfInBounds 75 undef, defers := a.defers } w ⟨hS.put hn 46 75 _ rfl (by rw [hsz0]; omega) (fun u h => by injection h with h; injection h with h; exact h.symm), hb, fun h => by
        rw [getD_set hls, if_neg (by omega)] at h
        obtain ⟨v, hv1, hv2⟩ := hA3 h
        exact ⟨v, by simpa using hv1, hv2⟩, fun h => by
        rw [getD_set hls, if_neg (by omega)] at h
        obtain ⟨v, hv1, hv2⟩ := hA9 h
        exact ⟨v, by simpa using hv1, hv2⟩, fun h => by
        rw [getD_set hls, if_neg (by omega)] at h
        obtain ⟨v, hv1, hv2⟩ := hA16 h
        exact ⟨v, by simpa using hv1, hv2⟩, fun h => by
        rw [getD_set hls, if_neg (by omega)] at h
        obtain ⟨v, hv1, hv2⟩ := hA19 h
        exact ⟨v, by simpa using hv1, hv2⟩⟩
    ·
      refine wpOp_step (o := { dst := some 76, op := Op.call { callee := Callee.value (Operand.func 15), args := #[Operand.tmp 67, Operand.tmp 75], argTypes := #[26, 3] }, type := 23, pos := "law.go:47", after := #[{ on := 38, ground := Ground.data }, { on := 46, ground := Ground.data }, { on := 37, ground := Ground.chain }, { on := 27, ground := Ground.guard }], guard := some (27, false) }) rfl ?_
      intro K hK
      have q56_ : a.tmps[56]? = some (.bool true) := hS.val 27 56 _ (hd 27 (of_decide_eq_true (by kernel_rfl))) rfl rfl
      rw [if_neg (unwanted_guard (j := 27) (d := 56) (b := false) rfl rfl q56_)]
      exact hK { tmps := a.tmps.setIfInBounds 76 undef, defers := a.defers } w ⟨hS.put hn 47 76 _ rfl (by rw [hsz0]; omega) (fun u h => by injection h with h; injection h with h; exact h.symm), hb, fun h => by
        rw [getD_set hls, if_neg (by omega)] at h
        obtain ⟨v, hv1, hv2⟩ := hA3 h
        exact ⟨v, by simpa using hv1, hv2⟩, fun h => by
        rw [getD_set hls, if_neg (by omega)] at h
        obtain ⟨v, hv1, hv2⟩ := hA9 h
        exact ⟨v, by simpa using hv1, hv2⟩, fun h => by
        rw [getD_set hls, if_neg (by omega)] at h
        obtain ⟨v, hv1, hv2⟩ := hA16 h
        exact ⟨v, by simpa using hv1, hv2⟩, fun h => by
        rw [getD_set hls, if_neg (by omega)] at h
        obtain ⟨v, hv1, hv2⟩ := hA19 h
        exact ⟨v, by simpa using hv1, hv2⟩⟩
    ·
      refine wpOp_step (o := { dst := some 77, op := Op.call { callee := Callee.value (Operand.func 12), args := #[Operand.tmp 66, Operand.tmp 76], argTypes := #[23, 23] }, type := 4, pos := "law.go:47", after := #[{ on := 37, ground := Ground.data }, { on := 47, ground := Ground.data }, { on := 47, ground := Ground.chain }, { on := 27, ground := Ground.guard }], guard := some (27, false) }) rfl ?_
      intro K hK
      have q56_ : a.tmps[56]? = some (.bool true) := hS.val 27 56 _ (hd 27 (of_decide_eq_true (by kernel_rfl))) rfl rfl
      rw [if_neg (unwanted_guard (j := 27) (d := 56) (b := false) rfl rfl q56_)]
      exact hK { tmps := a.tmps.setIfInBounds 77 undef, defers := a.defers } w ⟨hS.put hn 48 77 _ rfl (by rw [hsz0]; omega) (fun u h => by injection h with h; injection h with h; exact h.symm), hb, fun h => by
        rw [getD_set hls, if_neg (by omega)] at h
        obtain ⟨v, hv1, hv2⟩ := hA3 h
        exact ⟨v, by simpa using hv1, hv2⟩, fun h => by
        rw [getD_set hls, if_neg (by omega)] at h
        obtain ⟨v, hv1, hv2⟩ := hA9 h
        exact ⟨v, by simpa using hv1, hv2⟩, fun h => by
        rw [getD_set hls, if_neg (by omega)] at h
        obtain ⟨v, hv1, hv2⟩ := hA16 h
        exact ⟨v, by simpa using hv1, hv2⟩, fun h => by
        rw [getD_set hls, if_neg (by omega)] at h
        obtain ⟨v, hv1, hv2⟩ := hA19 h
        exact ⟨v, by simpa using hv1, hv2⟩⟩
    ·
      refine wpOp_step (o := { dst := some 78, op := Op.pick (Operand.tmp 56) (Operand.const (Value.bool true)) (Operand.tmp 77), type := 4, pos := "law.go:47", after := #[{ on := 27, ground := Ground.data }, { on := 48, ground := Ground.data }, { on := 22, ground := Ground.guard }], guard := some (22, true) }) rfl ?_
      intro K hK
      have q51_ : a.tmps[51]? = some (.bool true) := hS.val 22 51 _ (hd 22 (of_decide_eq_true (by kernel_rfl))) rfl rfl
      have q56_ : a.tmps[56]? = some (.bool true) := hS.val 27 56 _ (hd 27 (of_decide_eq_true (by kernel_rfl))) rfl rfl
      have q77_ : a.tmps[77]? = some (undef) := hS.val 48 77 _ (hd 48 (of_decide_eq_true (by kernel_rfl))) rfl rfl
      rw [if_pos (wanted_guard (j := 22) (d := 51) (b := true) rfl rfl q51_)]
      go_simp
      exact hK _ _ ⟨hS.put hn 49 78 _ rfl (by rw [hsz0]; omega) (fun u h => by injection h with h; injection h with h; exact h.symm), hb, fun h => by
        rw [getD_set hls, if_neg (by omega)] at h
        obtain ⟨v, hv1, hv2⟩ := hA3 h
        exact ⟨v, by simpa using hv1, hv2⟩, fun h => by
        rw [getD_set hls, if_neg (by omega)] at h
        obtain ⟨v, hv1, hv2⟩ := hA9 h
        exact ⟨v, by simpa using hv1, hv2⟩, fun h => by
        rw [getD_set hls, if_neg (by omega)] at h
        obtain ⟨v, hv1, hv2⟩ := hA16 h
        exact ⟨v, by simpa using hv1, hv2⟩, fun h => by
        rw [getD_set hls, if_neg (by omega)] at h
        obtain ⟨v, hv1, hv2⟩ := hA19 h
        exact ⟨v, by simpa using hv1, hv2⟩⟩
    ·
      refine wpOp_step (o := { dst := some 79, op := Op.pick (Operand.tmp 51) (Operand.tmp 78) (Operand.const (Value.bool false)), type := 4, pos := "law.go:47", after := #[{ on := 22, ground := Ground.data }, { on := 49, ground := Ground.data }], guard := none }) rfl ?_
      intro K hK
      have q51_ : a.tmps[51]? = some (.bool true) := hS.val 22 51 _ (hd 22 (of_decide_eq_true (by kernel_rfl))) rfl rfl
      have q78_ : a.tmps[78]? = some (.bool true) := hS.val 49 78 _ (hd 49 (of_decide_eq_true (by kernel_rfl))) rfl rfl
      go_simp
      exact hK _ _ ⟨hS.put hn 50 79 _ rfl (by rw [hsz0]; omega) (fun u h => by injection h with h; injection h with h; exact h.symm), hb, fun h => by
        rw [getD_set hls, if_neg (by omega)] at h
        obtain ⟨v, hv1, hv2⟩ := hA3 h
        exact ⟨v, by simpa using hv1, hv2⟩, fun h => by
        rw [getD_set hls, if_neg (by omega)] at h
        obtain ⟨v, hv1, hv2⟩ := hA9 h
        exact ⟨v, by simpa using hv1, hv2⟩, fun h => by
        rw [getD_set hls, if_neg (by omega)] at h
        obtain ⟨v, hv1, hv2⟩ := hA16 h
        exact ⟨v, by simpa using hv1, hv2⟩, fun h => by
        rw [getD_set hls, if_neg (by omega)] at h
        obtain ⟨v, hv1, hv2⟩ := hA19 h
        exact ⟨v, by simpa using hv1, hv2⟩⟩
    ·
      refine wpOp_step (o := { dst := some 4, op := Op.assign (Operand.tmp 79), type := 4, pos := "law.go:47", after := #[{ on := 50, ground := Ground.data }, { on := 48, ground := Ground.chain }, { on := 0, ground := Ground.phase }, { on := 1, ground := Ground.phase }, { on := 2, ground := Ground.phase }, { on := 3, ground := Ground.phase }, { on := 4, ground := Ground.phase }, { on := 5, ground := Ground.phase }, { on := 6, ground := Ground.phase }, { on := 7, ground := Ground.phase }, { on := 8, ground := Ground.phase }, { on := 9, ground := Ground.phase }, { on := 10, ground := Ground.phase }, { on := 11, ground := Ground.phase }, { on := 12, ground := Ground.phase }, { on := 13, ground := Ground.phase }, { on := 14, ground := Ground.phase }, { on := 15, ground := Ground.phase }, { on := 16, ground := Ground.phase }, { on := 17, ground := Ground.phase }, { on := 18, ground := Ground.phase }, { on := 19, ground := Ground.phase }, { on := 20, ground := Ground.phase }, { on := 21, ground := Ground.phase }, { on := 22, ground := Ground.phase }, { on := 23, ground := Ground.phase }, { on := 24, ground := Ground.phase }, { on := 25, ground := Ground.phase }, { on := 26, ground := Ground.phase }, { on := 27, ground := Ground.phase }, { on := 28, ground := Ground.phase }, { on := 29, ground := Ground.phase }, { on := 30, ground := Ground.phase }, { on := 31, ground := Ground.phase }, { on := 32, ground := Ground.phase }, { on := 33, ground := Ground.phase }, { on := 34, ground := Ground.phase }, { on := 35, ground := Ground.phase }, { on := 36, ground := Ground.phase }, { on := 37, ground := Ground.phase }, { on := 38, ground := Ground.phase }, { on := 39, ground := Ground.phase }, { on := 40, ground := Ground.phase }, { on := 41, ground := Ground.phase }, { on := 42, ground := Ground.phase }, { on := 43, ground := Ground.phase }, { on := 44, ground := Ground.phase }, { on := 45, ground := Ground.phase }, { on := 46, ground := Ground.phase }, { on := 47, ground := Ground.phase }, { on := 48, ground := Ground.phase }, { on := 49, ground := Ground.phase }, { on := 50, ground := Ground.phase }], guard := none }) rfl ?_
      intro K hK
      have q79_ : a.tmps[79]? = some (.bool true) := hS.val 50 79 _ (hd 50 (of_decide_eq_true (by kernel_rfl))) rfl rfl
      go_simp
      exact hK _ _ ⟨hS.put hn 51 4 _ rfl (by rw [hsz0]; omega) (fun u h => by injection h with h; injection h with h; exact h.symm), hb, fun h => by
        rw [getD_set hls, if_neg (by omega)] at h
        obtain ⟨v, hv1, hv2⟩ := hA3 h
        exact ⟨v, by simpa using hv1, hv2⟩, fun h => by
        rw [getD_set hls, if_neg (by omega)] at h
        obtain ⟨v, hv1, hv2⟩ := hA9 h
        exact ⟨v, by simpa using hv1, hv2⟩, fun h => by
        rw [getD_set hls, if_neg (by omega)] at h
        obtain ⟨v, hv1, hv2⟩ := hA16 h
        exact ⟨v, by simpa using hv1, hv2⟩, fun h => by
        rw [getD_set hls, if_neg (by omega)] at h
        obtain ⟨v, hv1, hv2⟩ := hA19 h
        exact ⟨v, by simpa using hv1, hv2⟩⟩
  · intro listed a w hall ⟨hS, hb, hA3, hA9, hA16, hA19⟩
    obtain ⟨v3, hv3, hi3⟩ := hA3 (hall 3 (by decide))
    obtain ⟨v9, hv9, hi9⟩ := hA9 (hall 9 (by decide))
    obtain ⟨v16, hv16, hi16⟩ := hA16 (hall 16 (by decide))
    obtain ⟨v19, hv19, hi19⟩ := hA19 (hall 19 (by decide))
    have hf := hS.frame [(29, .bool true), (30, .bool true), (31, .agg #[.slice a1 n1 c1, .int .i64 gap, .int .i64 rad, .slice a2 n2 c2, .slice a3 n3 c3]), (32, v3), (33, .slice u1 un uc), (34, .bool true), (35, .bool true), (36, .bool true), (37, .agg #[.slice a1 n1 c1, .int .i64 gap, .int .i64 rad, .slice a2 n2 c2, .slice a3 n3 c3]), (38, v9), (39, .slice la ln lc), (40, .bool true), (41, .bool true), (42, .bool true), (43, .agg #[.slice a1 n1 c1, .int .i64 gap, .int .i64 rad, .slice a2 n2 c2, .slice a3 n3 c3]), (44, .int .i64 kk), (45, v16), (46, .agg #[.slice a1 n1 c1, .int .i64 gap, .int .i64 rad, .slice a2 n2 c2, .slice a3 n3 c3]), (47, .int .i64 kk), (48, v19), (49, .bool true), (50, .bool true), (51, .bool true), (52, .pointer (some ⟨vb, 0, none⟩)), (53, .slice a1 n1 c1), (54, .int .i64 n1), (55, .bool true), (56, .bool true), (57, undef), (58, undef), (59, undef), (60, undef), (61, undef), (62, undef), (63, undef), (64, undef), (65, undef), (66, undef), (67, undef), (68, undef), (69, undef), (70, undef), (71, undef), (72, undef), (73, undef), (74, undef), (75, undef), (76, undef), (77, undef), (78, .bool true), (79, .bool true), (4, .bool true)] rfl (of_decide_eq_true (by kernel_rfl)) (by
      simp only [List.map_cons, List.map_nil, List.all_cons, List.all_nil, hsz0]; rfl) (by
      intro p hp
      simp only [List.mem_cons, List.not_mem_nil, or_false] at hp
      rcases hp with rfl | rfl | rfl | rfl | rfl | rfl | rfl | rfl | rfl | rfl | rfl | rfl | rfl | rfl | rfl | rfl | rfl | rfl | rfl | rfl | rfl | rfl | rfl | rfl | rfl | rfl | rfl | rfl | rfl | rfl | rfl | rfl | rfl | rfl | rfl | rfl | rfl | rfl | rfl | rfl | rfl | rfl | rfl | rfl | rfl | rfl | rfl | rfl | rfl | rfl | rfl | rfl
      · exact hS.val 0 29 _ (hall 0 (by decide)) rfl rfl
      · exact hS.val 1 30 _ (hall 1 (by decide)) rfl rfl
      · exact hS.val 2 31 _ (hall 2 (by decide)) rfl rfl
      · exact hv3
      · exact hS.val 4 33 _ (hall 4 (by decide)) rfl rfl
      · exact hS.val 5 34 _ (hall 5 (by decide)) rfl rfl
      · exact hS.val 6 35 _ (hall 6 (by decide)) rfl rfl
      · exact hS.val 7 36 _ (hall 7 (by decide)) rfl rfl
      · exact hS.val 8 37 _ (hall 8 (by decide)) rfl rfl
      · exact hv9
      · exact hS.val 10 39 _ (hall 10 (by decide)) rfl rfl
      · exact hS.val 11 40 _ (hall 11 (by decide)) rfl rfl
      · exact hS.val 12 41 _ (hall 12 (by decide)) rfl rfl
      · exact hS.val 13 42 _ (hall 13 (by decide)) rfl rfl
      · exact hS.val 14 43 _ (hall 14 (by decide)) rfl rfl
      · exact hS.val 15 44 _ (hall 15 (by decide)) rfl rfl
      · exact hv16
      · exact hS.val 17 46 _ (hall 17 (by decide)) rfl rfl
      · exact hS.val 18 47 _ (hall 18 (by decide)) rfl rfl
      · exact hv19
      · exact hS.val 20 49 _ (hall 20 (by decide)) rfl rfl
      · exact hS.val 21 50 _ (hall 21 (by decide)) rfl rfl
      · exact hS.val 22 51 _ (hall 22 (by decide)) rfl rfl
      · exact hS.val 23 52 _ (hall 23 (by decide)) rfl rfl
      · exact hS.val 24 53 _ (hall 24 (by decide)) rfl rfl
      · exact hS.val 25 54 _ (hall 25 (by decide)) rfl rfl
      · exact hS.val 26 55 _ (hall 26 (by decide)) rfl rfl
      · exact hS.val 27 56 _ (hall 27 (by decide)) rfl rfl
      · exact hS.val 28 57 _ (hall 28 (by decide)) rfl rfl
      · exact hS.val 29 58 _ (hall 29 (by decide)) rfl rfl
      · exact hS.val 30 59 _ (hall 30 (by decide)) rfl rfl
      · exact hS.val 31 60 _ (hall 31 (by decide)) rfl rfl
      · exact hS.val 32 61 _ (hall 32 (by decide)) rfl rfl
      · exact hS.val 33 62 _ (hall 33 (by decide)) rfl rfl
      · exact hS.val 34 63 _ (hall 34 (by decide)) rfl rfl
      · exact hS.val 35 64 _ (hall 35 (by decide)) rfl rfl
      · exact hS.val 36 65 _ (hall 36 (by decide)) rfl rfl
      · exact hS.val 37 66 _ (hall 37 (by decide)) rfl rfl
      · exact hS.val 38 67 _ (hall 38 (by decide)) rfl rfl
      · exact hS.val 39 68 _ (hall 39 (by decide)) rfl rfl
      · exact hS.val 40 69 _ (hall 40 (by decide)) rfl rfl
      · exact hS.val 41 70 _ (hall 41 (by decide)) rfl rfl
      · exact hS.val 42 71 _ (hall 42 (by decide)) rfl rfl
      · exact hS.val 43 72 _ (hall 43 (by decide)) rfl rfl
      · exact hS.val 44 73 _ (hall 44 (by decide)) rfl rfl
      · exact hS.val 45 74 _ (hall 45 (by decide)) rfl rfl
      · exact hS.val 46 75 _ (hall 46 (by decide)) rfl rfl
      · exact hS.val 47 76 _ (hall 47 (by decide)) rfl rfl
      · exact hS.val 48 77 _ (hall 48 (by decide)) rfl rfl
      · exact hS.val 49 78 _ (hall 49 (by decide)) rfl rfl
      · exact hS.val 50 79 _ (hall 50 (by decide)) rfl rfl
      · exact hS.val 51 4 _ (hall 51 (by decide)) rfl rfl)
    rw [hf]
    exact hQ w v3 v9 v16 v19 hb
end Go.Proofs.Ytbmmjbklfheghaa.Kll
