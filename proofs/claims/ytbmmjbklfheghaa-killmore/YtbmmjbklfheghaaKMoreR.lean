/- KillMore's drawn statements, by an invariant. -/
import Derived.Test.YtbmmjbklfheghaaKTold
import Derived.Test.YtbmmjbklfheghaaCGuard
import Derived.Test.YtbmmjbklfheghaaKApp
namespace Go.Proofs.Ytbmmjbklfheghaa.Kll
set_option linter.unusedVariables false
set_option maxRecDepth 100000
open Go.RowKit Go.Shelf
open Go.Proofs.Ytbmmjbklfheghaa.Ven (Seat Pole SeatAt Box mixed Slots wp_region_inv getD_set start_false putAll Slots.start slot_of Sl intC row_slice eval_of)
open Go.Proofs.Ytbmmjbklfheghaa.Com (hid' MarksAt MarksV Ints wanted_guard unwanted_guard)

set_option maxHeartbeats 16000000 in
theorem more_region {Q : Exit → Act → World → Prop} (a0 : Act) (W : World) (hsz0 : a0.tmps.size = 91) (b7 b9 sb so j q base : Nat) (a2 a3 : Option Addr) (n1 c1 n2 c2 c3 : Nat) (gap rad r r0 x y k0 : Int) (ps : List Pole) (hj : (j : Int) < (n1 : Int)) (hq : (q : Int) < 30) (eq30 : (IntKind.u64.wrap r).tmod 30 = q) (hps : ps.length ≤ 200)
    (hx : Box W b7 26 #[.slice (some ⟨sb, so, none⟩) n1 c1, .int .i64 gap, .int .i64 rad, .slice a2 n2 c2, .slice a3 ps.length c3]) (hy : Box W b9 26 #[.slice (some ⟨sb, so, none⟩) n1 c1, .int .i64 gap, .int .i64 rad, .slice a2 n2 c2, .slice a3 ps.length c3]) (hs : SeatAt W sb (so + j * 4) r0 x y k0) (hp : Poles base W (.slice a3 ps.length c3) ps)
    (h7_ : a0.tmps[7]? = some (.pointer (some ⟨b7, 0, none⟩))) (h8_ : a0.tmps[8]? = some (.int .i64 (j : Int))) (h9_ : a0.tmps[9]? = some (.pointer (some ⟨b9, 0, none⟩))) (h2_ : a0.tmps[2]? = some (.int .i64 r))
    (hQ : ∀ w1 v24 v27 v46 v47, Below W.heap.size W w1 → Poles W.heap.size w1 v47 (ps ++ [⟨x, y, 1 + (q : Int)⟩]) → Q .normal { tmps := putAll a0.tmps [(24, v24), (25, .pointer (some ⟨b7, 4, none⟩)), (26, .slice a3 ps.length c3), (27, v27), (28, .pointer (some ⟨b7, 0, none⟩)), (29, .slice (some ⟨sb, so, none⟩) n1 c1), (30, .int .i64 (j : Int)), (31, .pointer (some ⟨sb, so + j * 4, none⟩)), (32, .pointer (some ⟨sb, so + j * 4 + 1, none⟩)), (33, .int .i64 x), (34, .pointer (some ⟨b7, 0, none⟩)), (35, .slice (some ⟨sb, so, none⟩) n1 c1), (36, .int .i64 (j : Int)), (37, .pointer (some ⟨sb, so + j * 4, none⟩)), (38, .pointer (some ⟨sb, so + j * 4 + 2, none⟩)), (39, .int .i64 y), (40, .int .i64 r), (41, .int .u64 (IntKind.u64.wrap r)), (42, .int .u64 q), (43, .int .i64 (q : Int)), (44, .int .i64 (1 + (q : Int))), (45, .agg #[.int .i64 x, .int .i64 y, .int .i64 (1 + (q : Int))]), (46, v46), (47, v47), (48, .pointer (some ⟨b9, 4, none⟩))], defers := a0.defers } (w1.setCell ⟨b9, 4, none⟩ v47)) :
    (Code.region 4 #[{ dst := some 24, op := Op.buildSlice 24 0 #[], type := 24, pos := "law.go:83", after := #[], guard := none }, { dst := some 25, op := Op.fieldAddr 26 (Operand.tmp 7) 4, type := 0, pos := "law.go:83", after := #[], guard := none }, { dst := some 26, op := Op.load 24 (Operand.tmp 25), type := 24, pos := "law.go:83", after := #[{ on := 1, ground := Ground.data }], guard := none }, { dst := some 27, op := Op.call { callee := Callee.builtin Builtin.append, args := #[Operand.tmp 24, Operand.tmp 26], argTypes := #[24, 24] }, type := 24, pos := "law.go:83", after := #[{ on := 0, ground := Ground.data }, { on := 2, ground := Ground.data }], guard := none }, { dst := some 28, op := Op.fieldAddr 26 (Operand.tmp 7) 0, type := 0, pos := "law.go:83", after := #[], guard := none }, { dst := some 29, op := Op.load 22 (Operand.tmp 28), type := 22, pos := "law.go:83", after := #[{ on := 4, ground := Ground.data }], guard := none }, { dst := some 30, op := Op.move (Operand.tmp 8), type := 3, pos := "law.go:83", after := #[], guard := none }, { dst := some 31, op := Op.indexAddr 22 (Operand.tmp 29) (Operand.tmp 30), type := 0, pos := "law.go:83", after := #[{ on := 5, ground := Ground.data }, { on := 6, ground := Ground.data }], guard := none }, { dst := some 32, op := Op.fieldAddr 44 (Operand.tmp 31) 1, type := 0, pos := "law.go:83", after := #[{ on := 7, ground := Ground.data }], guard := none }, { dst := some 33, op := Op.load 3 (Operand.tmp 32), type := 3, pos := "law.go:83", after := #[{ on := 8, ground := Ground.data }], guard := none }, { dst := some 34, op := Op.fieldAddr 26 (Operand.tmp 7) 0, type := 0, pos := "law.go:83", after := #[], guard := none }, { dst := some 35, op := Op.load 22 (Operand.tmp 34), type := 22, pos := "law.go:83", after := #[{ on := 10, ground := Ground.data }], guard := none }, { dst := some 36, op := Op.move (Operand.tmp 8), type := 3, pos := "law.go:83", after := #[], guard := none }, { dst := some 37, op := Op.indexAddr 22 (Operand.tmp 35) (Operand.tmp 36), type := 0, pos := "law.go:83", after := #[{ on := 11, ground := Ground.data }, { on := 12, ground := Ground.data }], guard := none }, { dst := some 38, op := Op.fieldAddr 44 (Operand.tmp 37) 2, type := 0, pos := "law.go:83", after := #[{ on := 13, ground := Ground.data }], guard := none }, { dst := some 39, op := Op.load 3 (Operand.tmp 38), type := 3, pos := "law.go:83", after := #[{ on := 14, ground := Ground.data }], guard := none }, { dst := some 40, op := Op.move (Operand.tmp 2), type := 3, pos := "law.go:83", after := #[], guard := none }, { dst := some 41, op := Op.convert 3 35 (Operand.tmp 40), type := 35, pos := "law.go:83", after := #[{ on := 16, ground := Ground.data }], guard := none }, { dst := some 42, op := Op.binOp BinOp.rem 35 (Operand.tmp 41) (Operand.const (Value.int IntKind.u64 30)) 35, type := 35, pos := "law.go:83", after := #[{ on := 17, ground := Ground.data }], guard := none }, { dst := some 43, op := Op.convert 35 3 (Operand.tmp 42), type := 3, pos := "law.go:83", after := #[{ on := 18, ground := Ground.data }], guard := none }, { dst := some 44, op := Op.binOp BinOp.add 3 (Operand.const (Value.int IntKind.i64 1)) (Operand.tmp 43) 3, type := 3, pos := "law.go:83", after := #[{ on := 19, ground := Ground.data }], guard := none }, { dst := some 45, op := Op.build 41 #[(0, Operand.tmp 33), (1, Operand.tmp 39), (2, Operand.tmp 44)], type := 41, pos := "law.go:83", after := #[{ on := 9, ground := Ground.data }, { on := 15, ground := Ground.data }, { on := 20, ground := Ground.data }], guard := none }, { dst := some 46, op := Op.buildSlice 24 1 #[(0, Operand.tmp 45)], type := 24, pos := "law.go:83", after := #[{ on := 21, ground := Ground.data }], guard := none }, { dst := some 47, op := Op.call { callee := Callee.builtin Builtin.append, args := #[Operand.tmp 27, Operand.tmp 46], argTypes := #[24, 24] }, type := 24, pos := "law.go:83", after := #[{ on := 3, ground := Ground.data }, { on := 22, ground := Ground.data }, { on := 3, ground := Ground.chain }], guard := none }, { dst := some 48, op := Op.fieldAddr 26 (Operand.tmp 9) 4, type := 0, pos := "law.go:83", after := #[{ on := 0, ground := Ground.phase }, { on := 1, ground := Ground.phase }, { on := 2, ground := Ground.phase }, { on := 3, ground := Ground.phase }, { on := 4, ground := Ground.phase }, { on := 5, ground := Ground.phase }, { on := 6, ground := Ground.phase }, { on := 7, ground := Ground.phase }, { on := 8, ground := Ground.phase }, { on := 9, ground := Ground.phase }, { on := 10, ground := Ground.phase }, { on := 11, ground := Ground.phase }, { on := 12, ground := Ground.phase }, { on := 13, ground := Ground.phase }, { on := 14, ground := Ground.phase }, { on := 15, ground := Ground.phase }, { on := 16, ground := Ground.phase }, { on := 17, ground := Ground.phase }, { on := 18, ground := Ground.phase }, { on := 19, ground := Ground.phase }, { on := 20, ground := Ground.phase }, { on := 21, ground := Ground.phase }, { on := 22, ground := Ground.phase }, { on := 23, ground := Ground.phase }], guard := none }, { dst := none, op := Op.store 24 (Operand.tmp 48) (Operand.tmp 47), type := 0, pos := "law.go:83", after := #[{ on := 24, ground := Ground.data }, { on := 23, ground := Ground.data }, { on := 23, ground := Ground.chain }, { on := 0, ground := Ground.phase }, { on := 1, ground := Ground.phase }, { on := 2, ground := Ground.phase }, { on := 3, ground := Ground.phase }, { on := 4, ground := Ground.phase }, { on := 5, ground := Ground.phase }, { on := 6, ground := Ground.phase }, { on := 7, ground := Ground.phase }, { on := 8, ground := Ground.phase }, { on := 9, ground := Ground.phase }, { on := 10, ground := Ground.phase }, { on := 11, ground := Ground.phase }, { on := 12, ground := Ground.phase }, { on := 13, ground := Ground.phase }, { on := 14, ground := Ground.phase }, { on := 15, ground := Ground.phase }, { on := 16, ground := Ground.phase }, { on := 17, ground := Ground.phase }, { on := 18, ground := Ground.phase }, { on := 19, ground := Ground.phase }, { on := 20, ground := Ground.phase }, { on := 21, ground := Ground.phase }, { on := 22, ground := Ground.phase }, { on := 23, ground := Ground.phase }], guard := none }] true).wp Try.prog Q a0 W := by
  have hn : ([some 24, some 25, some 26, some 27, some 28, some 29, some 30, some 31, some 32, some 33, some 34, some 35, some 36, some 37, some 38, some 39, some 40, some 41, some 42, some 43, some 44, some 45, some 46, some 47, some 48, none] : List (Option Nat)).Pairwise (fun x y => x = none ∨ x ≠ y) := of_decide_eq_true (by kernel_rfl)
  have z3 : IntKind.i64.wrap (q : Int) = q := by rw [IntKind.wrap_i64]; omega
  have z4 : IntKind.i64.wrap (1 + (q : Int)) = 1 + (q : Int) := by rw [IntKind.wrap_i64]; omega
  refine wp_region_inv mixed (fun listed a w => Slots a0 [some 24, some 25, some 26, some 27, some 28, some 29, some 30, some 31, some 32, some 33, some 34, some 35, some 36, some 37, some 38, some 39, some 40, some 41, some 42, some 43, some 44, some 45, some 46, some 47, some 48, none] [none, some (.pointer (some ⟨b7, 4, none⟩)), some (.slice a3 ps.length c3), none, some (.pointer (some ⟨b7, 0, none⟩)), some (.slice (some ⟨sb, so, none⟩) n1 c1), some (.int .i64 (j : Int)), some (.pointer (some ⟨sb, so + j * 4, none⟩)), some (.pointer (some ⟨sb, so + j * 4 + 1, none⟩)), some (.int .i64 x), some (.pointer (some ⟨b7, 0, none⟩)), some (.slice (some ⟨sb, so, none⟩) n1 c1), some (.int .i64 (j : Int)), some (.pointer (some ⟨sb, so + j * 4, none⟩)), some (.pointer (some ⟨sb, so + j * 4 + 2, none⟩)), some (.int .i64 y), some (.int .i64 r), some (.int .u64 (IntKind.u64.wrap r)), some (.int .u64 q), some (.int .i64 (q : Int)), some (.int .i64 (1 + (q : Int))), some (.agg #[.int .i64 x, .int .i64 y, .int .i64 (1 + (q : Int))]), none, none, some (.pointer (some ⟨b9, 4, none⟩)), none] listed a ∧ ((listed.getD 25 false = false ∧ Below W.heap.size W w ∧ MoreG W.heap.size ps ⟨x, y, 1 + (q : Int)⟩ listed (a.tmps) w) ∨ (listed.getD 25 false = true ∧ ∃ w1 v, w = w1.setCell ⟨b9, 4, none⟩ v ∧ Below W.heap.size W w1 ∧ a.tmps[47]? = some v ∧ Poles W.heap.size w1 v (ps ++ [⟨x, y, 1 + (q : Int)⟩])))) (by kernel_rfl) ?_ ?_ ?_
  · exact ⟨Slots.start _ _ _ _, .inl ⟨start_false _ _, (Below.refl _ W).drew, (fun h => by rw [start_false] at h; cases h), (fun h => by rw [start_false] at h; cases h), (fun h => by rw [start_false] at h; cases h), (fun h => by rw [start_false] at h; cases h)⟩⟩
  · intro listed a w i' hsl hilt hl hd hcl ⟨hS, hI⟩
    have hsz : Hid (a.tmps.size = 91) := hS.size.trans hsz0
    have hls : i' < listed.size := by rw [hsl]; exact hilt
    have hcase : i' = 0 ∨ i' = 1 ∨ i' = 2 ∨ i' = 3 ∨ i' = 4 ∨ i' = 5 ∨ i' = 6 ∨ i' = 7 ∨ i' = 8 ∨ i' = 9 ∨ i' = 10 ∨ i' = 11 ∨ i' = 12 ∨ i' = 13 ∨ i' = 14 ∨ i' = 15 ∨ i' = 16 ∨ i' = 17 ∨ i' = 18 ∨ i' = 19 ∨ i' = 20 ∨ i' = 21 ∨ i' = 22 ∨ i' = 23 ∨ i' = 24 ∨ i' = 25 := by
      have : i' < 26 := hilt
      omega
    rcases hcase with rfl | rfl | rfl | rfl | rfl | rfl | rfl | rfl | rfl | rfl | rfl | rfl | rfl | rfl | rfl | rfl | rfl | rfl | rfl | rfl | rfl | rfl | rfl | rfl | rfl | rfl
    ·
      refine wpOp_step (o := { dst := some 24, op := Op.buildSlice 24 0 #[], type := 24, pos := "law.go:83", after := #[], guard := none }) rfl ?_
      intro K hK
      have n25 : listed.getD 25 false = false := by
        cases h : listed.getD 25 false with
        | false => rfl
        | true => rw [hcl 25 0 h (of_decide_eq_true (by kernel_rfl))] at hl; cases hl
      obtain ⟨hb, hG⟩ : Below W.heap.size W w ∧ MoreG W.heap.size ps ⟨x, y, 1 + (q : Int)⟩ listed (a.tmps) w := by
        rcases hI with ⟨_, hb, hG⟩ | ⟨h, _⟩
        · exact ⟨hb, hG⟩
        · rw [n25] at h; cases h
      have n3 : listed.getD 3 false = false := by
        cases h : listed.getD 3 false with
        | false => rfl
        | true => rw [hcl 3 0 h (of_decide_eq_true (by kernel_rfl))] at hl; cases hl
      have n23 : listed.getD 23 false = false := by
        cases h : listed.getD 23 false with
        | false => rfl
        | true => rw [hcl 23 3 h (of_decide_eq_true (by kernel_rfl))] at n3; cases n3
      go_simp
      exact hK _ _ ⟨hS.put hn 0 24 _ rfl (by rw [hsz0]; omega) (fun u h => by cases h), .inl ⟨by rw [getD_set hls, if_neg (by omega)]; exact n25, hb.alloc hb.size _, hG.first hls hsz.out n3 n23 hb.size⟩⟩
    ·
      refine wpOp_step (o := { dst := some 25, op := Op.fieldAddr 26 (Operand.tmp 7) 4, type := 0, pos := "law.go:83", after := #[], guard := none }) rfl ?_
      intro K hK
      have n25 : listed.getD 25 false = false := by
        cases h : listed.getD 25 false with
        | false => rfl
        | true => rw [hcl 25 1 h (of_decide_eq_true (by kernel_rfl))] at hl; cases hl
      obtain ⟨hb, hG⟩ : Below W.heap.size W w ∧ MoreG W.heap.size ps ⟨x, y, 1 + (q : Int)⟩ listed (a.tmps) w := by
        rcases hI with ⟨_, hb, hG⟩ | ⟨h, _⟩
        · exact ⟨hb, hG⟩
        · rw [n25] at h; cases h
      have q7_ : a.tmps[7]? = some (.pointer (some ⟨b7, 0, none⟩)) := (hS.keep 7 (of_decide_eq_true (by kernel_rfl))).trans h7_
      go_simp
      exact hK _ _ ⟨hS.put hn 1 25 _ rfl (by rw [hsz0]; omega) (fun u h => by injection h with h; injection h with h; exact h.symm), .inl ⟨by rw [getD_set hls, if_neg (by omega)]; exact n25, hb, hG.same _ hls (by omega) (by omega)⟩⟩
    ·
      refine wpOp_step (o := { dst := some 26, op := Op.load 24 (Operand.tmp 25), type := 24, pos := "law.go:83", after := #[{ on := 1, ground := Ground.data }], guard := none }) rfl ?_
      intro K hK
      have n25 : listed.getD 25 false = false := by
        cases h : listed.getD 25 false with
        | false => rfl
        | true => rw [hcl 25 2 h (of_decide_eq_true (by kernel_rfl))] at hl; cases hl
      obtain ⟨hb, hG⟩ : Below W.heap.size W w ∧ MoreG W.heap.size ps ⟨x, y, 1 + (q : Int)⟩ listed (a.tmps) w := by
        rcases hI with ⟨_, hb, hG⟩ | ⟨h, _⟩
        · exact ⟨hb, hG⟩
        · rw [n25] at h; cases h
      have q25_ : a.tmps[25]? = some (.pointer (some ⟨b7, 4, none⟩)) := hS.val 1 25 _ (hd 1 (of_decide_eq_true (by kernel_rfl))) rfl rfl
      have m0 := (hx.next hb).cell 4 _ rfl
      go_simp
      exact hK _ _ ⟨hS.put hn 2 26 _ rfl (by rw [hsz0]; omega) (fun u h => by injection h with h; injection h with h; exact h.symm), .inl ⟨by rw [getD_set hls, if_neg (by omega)]; exact n25, hb, hG.same _ hls (by omega) (by omega)⟩⟩
    ·
      refine wpOp_step (o := { dst := some 27, op := Op.call { callee := Callee.builtin Builtin.append, args := #[Operand.tmp 24, Operand.tmp 26], argTypes := #[24, 24] }, type := 24, pos := "law.go:83", after := #[{ on := 0, ground := Ground.data }, { on := 2, ground := Ground.data }], guard := none }) rfl ?_
      intro K hK
      have n25 : listed.getD 25 false = false := by
        cases h : listed.getD 25 false with
        | false => rfl
        | true => rw [hcl 25 3 h (of_decide_eq_true (by kernel_rfl))] at hl; cases hl
      obtain ⟨hb, hG⟩ : Below W.heap.size W w ∧ MoreG W.heap.size ps ⟨x, y, 1 + (q : Int)⟩ listed (a.tmps) w := by
        rcases hI with ⟨_, hb, hG⟩ | ⟨h, _⟩
        · exact ⟨hb, hG⟩
        · rw [n25] at h; cases h
      have q26_ : a.tmps[26]? = some (.slice a3 ps.length c3) := hS.val 2 26 _ (hd 2 (of_decide_eq_true (by kernel_rfl))) rfl rfl
      have n23 : listed.getD 23 false = false := by
        cases h : listed.getD 23 false with
        | false => rfl
        | true => rw [hcl 23 3 h (of_decide_eq_true (by kernel_rfl))] at hl; cases hl
      obtain ⟨g, e24, hg, hx24⟩ := hG.1 (hd 0 (of_decide_eq_true (by kernel_rfl))) hl
      refine step_append_poles rfl (.tmp 24) (.tmp 26) rfl W.heap.size base _ _ [] ps (eval_of e24) (Poles.none hx24 hg) (eval_of q26_) (hp.next hb) (by simp) (by omega) hb.size ?_
      intro v' w' hv hgr
      exact hK _ _ ⟨hS.put hn 3 27 _ rfl (by rw [hsz0]; omega) (fun u h => by cases h), .inl ⟨by rw [getD_set hls, if_neg (by omega)]; exact n25, hb.grown hgr hb.size (fun t ht => by have ht' : some g = some t := ht; injection ht' with ht'; omega), hG.copied hls hsz.out n23 hx24 hv hgr⟩⟩
    ·
      refine wpOp_step (o := { dst := some 28, op := Op.fieldAddr 26 (Operand.tmp 7) 0, type := 0, pos := "law.go:83", after := #[], guard := none }) rfl ?_
      intro K hK
      have n25 : listed.getD 25 false = false := by
        cases h : listed.getD 25 false with
        | false => rfl
        | true => rw [hcl 25 4 h (of_decide_eq_true (by kernel_rfl))] at hl; cases hl
      obtain ⟨hb, hG⟩ : Below W.heap.size W w ∧ MoreG W.heap.size ps ⟨x, y, 1 + (q : Int)⟩ listed (a.tmps) w := by
        rcases hI with ⟨_, hb, hG⟩ | ⟨h, _⟩
        · exact ⟨hb, hG⟩
        · rw [n25] at h; cases h
      have q7_ : a.tmps[7]? = some (.pointer (some ⟨b7, 0, none⟩)) := (hS.keep 7 (of_decide_eq_true (by kernel_rfl))).trans h7_
      go_simp
      exact hK _ _ ⟨hS.put hn 4 28 _ rfl (by rw [hsz0]; omega) (fun u h => by injection h with h; injection h with h; exact h.symm), .inl ⟨by rw [getD_set hls, if_neg (by omega)]; exact n25, hb, hG.same _ hls (by omega) (by omega)⟩⟩
    ·
      refine wpOp_step (o := { dst := some 29, op := Op.load 22 (Operand.tmp 28), type := 22, pos := "law.go:83", after := #[{ on := 4, ground := Ground.data }], guard := none }) rfl ?_
      intro K hK
      have n25 : listed.getD 25 false = false := by
        cases h : listed.getD 25 false with
        | false => rfl
        | true => rw [hcl 25 5 h (of_decide_eq_true (by kernel_rfl))] at hl; cases hl
      obtain ⟨hb, hG⟩ : Below W.heap.size W w ∧ MoreG W.heap.size ps ⟨x, y, 1 + (q : Int)⟩ listed (a.tmps) w := by
        rcases hI with ⟨_, hb, hG⟩ | ⟨h, _⟩
        · exact ⟨hb, hG⟩
        · rw [n25] at h; cases h
      have q28_ : a.tmps[28]? = some (.pointer (some ⟨b7, 0, none⟩)) := hS.val 4 28 _ (hd 4 (of_decide_eq_true (by kernel_rfl))) rfl rfl
      have m0 := (hx.next hb).cell 0 _ rfl
      go_simp
      exact hK _ _ ⟨hS.put hn 5 29 _ rfl (by rw [hsz0]; omega) (fun u h => by injection h with h; injection h with h; exact h.symm), .inl ⟨by rw [getD_set hls, if_neg (by omega)]; exact n25, hb, hG.same _ hls (by omega) (by omega)⟩⟩
    ·
      refine wpOp_step (o := { dst := some 30, op := Op.move (Operand.tmp 8), type := 3, pos := "law.go:83", after := #[], guard := none }) rfl ?_
      intro K hK
      have n25 : listed.getD 25 false = false := by
        cases h : listed.getD 25 false with
        | false => rfl
        | true => rw [hcl 25 6 h (of_decide_eq_true (by kernel_rfl))] at hl; cases hl
      obtain ⟨hb, hG⟩ : Below W.heap.size W w ∧ MoreG W.heap.size ps ⟨x, y, 1 + (q : Int)⟩ listed (a.tmps) w := by
        rcases hI with ⟨_, hb, hG⟩ | ⟨h, _⟩
        · exact ⟨hb, hG⟩
        · rw [n25] at h; cases h
      have q8_ : a.tmps[8]? = some (.int .i64 (j : Int)) := (hS.keep 8 (of_decide_eq_true (by kernel_rfl))).trans h8_
      go_simp
      exact hK _ _ ⟨hS.put hn 6 30 _ rfl (by rw [hsz0]; omega) (fun u h => by injection h with h; injection h with h; exact h.symm), .inl ⟨by rw [getD_set hls, if_neg (by omega)]; exact n25, hb, hG.same _ hls (by omega) (by omega)⟩⟩
    ·
      refine wpOp_step (o := { dst := some 31, op := Op.indexAddr 22 (Operand.tmp 29) (Operand.tmp 30), type := 0, pos := "law.go:83", after := #[{ on := 5, ground := Ground.data }, { on := 6, ground := Ground.data }], guard := none }) rfl ?_
      intro K hK
      have n25 : listed.getD 25 false = false := by
        cases h : listed.getD 25 false with
        | false => rfl
        | true => rw [hcl 25 7 h (of_decide_eq_true (by kernel_rfl))] at hl; cases hl
      obtain ⟨hb, hG⟩ : Below W.heap.size W w ∧ MoreG W.heap.size ps ⟨x, y, 1 + (q : Int)⟩ listed (a.tmps) w := by
        rcases hI with ⟨_, hb, hG⟩ | ⟨h, _⟩
        · exact ⟨hb, hG⟩
        · rw [n25] at h; cases h
      have q29_ : a.tmps[29]? = some (.slice (some ⟨sb, so, none⟩) n1 c1) := hS.val 5 29 _ (hd 5 (of_decide_eq_true (by kernel_rfl))) rfl rfl
      have q30_ : a.tmps[30]? = some (.int .i64 (j : Int)) := hS.val 6 30 _ (hd 6 (of_decide_eq_true (by kernel_rfl))) rfl rfl
      go_simp
      exact hK _ _ ⟨hS.put hn 7 31 _ rfl (by rw [hsz0]; omega) (fun u h => by injection h with h; injection h with h; exact h.symm), .inl ⟨by rw [getD_set hls, if_neg (by omega)]; exact n25, hb, hG.same _ hls (by omega) (by omega)⟩⟩
    ·
      refine wpOp_step (o := { dst := some 32, op := Op.fieldAddr 44 (Operand.tmp 31) 1, type := 0, pos := "law.go:83", after := #[{ on := 7, ground := Ground.data }], guard := none }) rfl ?_
      intro K hK
      have n25 : listed.getD 25 false = false := by
        cases h : listed.getD 25 false with
        | false => rfl
        | true => rw [hcl 25 8 h (of_decide_eq_true (by kernel_rfl))] at hl; cases hl
      obtain ⟨hb, hG⟩ : Below W.heap.size W w ∧ MoreG W.heap.size ps ⟨x, y, 1 + (q : Int)⟩ listed (a.tmps) w := by
        rcases hI with ⟨_, hb, hG⟩ | ⟨h, _⟩
        · exact ⟨hb, hG⟩
        · rw [n25] at h; cases h
      have q31_ : a.tmps[31]? = some (.pointer (some ⟨sb, so + j * 4, none⟩)) := hS.val 7 31 _ (hd 7 (of_decide_eq_true (by kernel_rfl))) rfl rfl
      go_simp
      exact hK _ _ ⟨hS.put hn 8 32 _ rfl (by rw [hsz0]; omega) (fun u h => by injection h with h; injection h with h; exact h.symm), .inl ⟨by rw [getD_set hls, if_neg (by omega)]; exact n25, hb, hG.same _ hls (by omega) (by omega)⟩⟩
    ·
      refine wpOp_step (o := { dst := some 33, op := Op.load 3 (Operand.tmp 32), type := 3, pos := "law.go:83", after := #[{ on := 8, ground := Ground.data }], guard := none }) rfl ?_
      intro K hK
      have n25 : listed.getD 25 false = false := by
        cases h : listed.getD 25 false with
        | false => rfl
        | true => rw [hcl 25 9 h (of_decide_eq_true (by kernel_rfl))] at hl; cases hl
      obtain ⟨hb, hG⟩ : Below W.heap.size W w ∧ MoreG W.heap.size ps ⟨x, y, 1 + (q : Int)⟩ listed (a.tmps) w := by
        rcases hI with ⟨_, hb, hG⟩ | ⟨h, _⟩
        · exact ⟨hb, hG⟩
        · rw [n25] at h; cases h
      have q32_ : a.tmps[32]? = some (.pointer (some ⟨sb, so + j * 4 + 1, none⟩)) := hS.val 8 32 _ (hd 8 (of_decide_eq_true (by kernel_rfl))) rfl rfl
      have mm := hs.next hb
      have m0 := mm.c0
      have m1 := mm.c1
      have m2 := mm.c2
      have m3 := mm.c3
      go_simp
      exact hK _ _ ⟨hS.put hn 9 33 _ rfl (by rw [hsz0]; omega) (fun u h => by injection h with h; injection h with h; exact h.symm), .inl ⟨by rw [getD_set hls, if_neg (by omega)]; exact n25, hb, hG.same _ hls (by omega) (by omega)⟩⟩
    ·
      refine wpOp_step (o := { dst := some 34, op := Op.fieldAddr 26 (Operand.tmp 7) 0, type := 0, pos := "law.go:83", after := #[], guard := none }) rfl ?_
      intro K hK
      have n25 : listed.getD 25 false = false := by
        cases h : listed.getD 25 false with
        | false => rfl
        | true => rw [hcl 25 10 h (of_decide_eq_true (by kernel_rfl))] at hl; cases hl
      obtain ⟨hb, hG⟩ : Below W.heap.size W w ∧ MoreG W.heap.size ps ⟨x, y, 1 + (q : Int)⟩ listed (a.tmps) w := by
        rcases hI with ⟨_, hb, hG⟩ | ⟨h, _⟩
        · exact ⟨hb, hG⟩
        · rw [n25] at h; cases h
      have q7_ : a.tmps[7]? = some (.pointer (some ⟨b7, 0, none⟩)) := (hS.keep 7 (of_decide_eq_true (by kernel_rfl))).trans h7_
      go_simp
      exact hK _ _ ⟨hS.put hn 10 34 _ rfl (by rw [hsz0]; omega) (fun u h => by injection h with h; injection h with h; exact h.symm), .inl ⟨by rw [getD_set hls, if_neg (by omega)]; exact n25, hb, hG.same _ hls (by omega) (by omega)⟩⟩
    ·
      refine wpOp_step (o := { dst := some 35, op := Op.load 22 (Operand.tmp 34), type := 22, pos := "law.go:83", after := #[{ on := 10, ground := Ground.data }], guard := none }) rfl ?_
      intro K hK
      have n25 : listed.getD 25 false = false := by
        cases h : listed.getD 25 false with
        | false => rfl
        | true => rw [hcl 25 11 h (of_decide_eq_true (by kernel_rfl))] at hl; cases hl
      obtain ⟨hb, hG⟩ : Below W.heap.size W w ∧ MoreG W.heap.size ps ⟨x, y, 1 + (q : Int)⟩ listed (a.tmps) w := by
        rcases hI with ⟨_, hb, hG⟩ | ⟨h, _⟩
        · exact ⟨hb, hG⟩
        · rw [n25] at h; cases h
      have q34_ : a.tmps[34]? = some (.pointer (some ⟨b7, 0, none⟩)) := hS.val 10 34 _ (hd 10 (of_decide_eq_true (by kernel_rfl))) rfl rfl
      have m0 := (hx.next hb).cell 0 _ rfl
      go_simp
      exact hK _ _ ⟨hS.put hn 11 35 _ rfl (by rw [hsz0]; omega) (fun u h => by injection h with h; injection h with h; exact h.symm), .inl ⟨by rw [getD_set hls, if_neg (by omega)]; exact n25, hb, hG.same _ hls (by omega) (by omega)⟩⟩
    ·
      refine wpOp_step (o := { dst := some 36, op := Op.move (Operand.tmp 8), type := 3, pos := "law.go:83", after := #[], guard := none }) rfl ?_
      intro K hK
      have n25 : listed.getD 25 false = false := by
        cases h : listed.getD 25 false with
        | false => rfl
        | true => rw [hcl 25 12 h (of_decide_eq_true (by kernel_rfl))] at hl; cases hl
      obtain ⟨hb, hG⟩ : Below W.heap.size W w ∧ MoreG W.heap.size ps ⟨x, y, 1 + (q : Int)⟩ listed (a.tmps) w := by
        rcases hI with ⟨_, hb, hG⟩ | ⟨h, _⟩
        · exact ⟨hb, hG⟩
        · rw [n25] at h; cases h
      have q8_ : a.tmps[8]? = some (.int .i64 (j : Int)) := (hS.keep 8 (of_decide_eq_true (by kernel_rfl))).trans h8_
      go_simp
      exact hK _ _ ⟨hS.put hn 12 36 _ rfl (by rw [hsz0]; omega) (fun u h => by injection h with h; injection h with h; exact h.symm), .inl ⟨by rw [getD_set hls, if_neg (by omega)]; exact n25, hb, hG.same _ hls (by omega) (by omega)⟩⟩
    ·
      refine wpOp_step (o := { dst := some 37, op := Op.indexAddr 22 (Operand.tmp 35) (Operand.tmp 36), type := 0, pos := "law.go:83", after := #[{ on := 11, ground := Ground.data }, { on := 12, ground := Ground.data }], guard := none }) rfl ?_
      intro K hK
      have n25 : listed.getD 25 false = false := by
        cases h : listed.getD 25 false with
        | false => rfl
        | true => rw [hcl 25 13 h (of_decide_eq_true (by kernel_rfl))] at hl; cases hl
      obtain ⟨hb, hG⟩ : Below W.heap.size W w ∧ MoreG W.heap.size ps ⟨x, y, 1 + (q : Int)⟩ listed (a.tmps) w := by
        rcases hI with ⟨_, hb, hG⟩ | ⟨h, _⟩
        · exact ⟨hb, hG⟩
        · rw [n25] at h; cases h
      have q35_ : a.tmps[35]? = some (.slice (some ⟨sb, so, none⟩) n1 c1) := hS.val 11 35 _ (hd 11 (of_decide_eq_true (by kernel_rfl))) rfl rfl
      have q36_ : a.tmps[36]? = some (.int .i64 (j : Int)) := hS.val 12 36 _ (hd 12 (of_decide_eq_true (by kernel_rfl))) rfl rfl
      go_simp
      exact hK _ _ ⟨hS.put hn 13 37 _ rfl (by rw [hsz0]; omega) (fun u h => by injection h with h; injection h with h; exact h.symm), .inl ⟨by rw [getD_set hls, if_neg (by omega)]; exact n25, hb, hG.same _ hls (by omega) (by omega)⟩⟩
    ·
      refine wpOp_step (o := { dst := some 38, op := Op.fieldAddr 44 (Operand.tmp 37) 2, type := 0, pos := "law.go:83", after := #[{ on := 13, ground := Ground.data }], guard := none }) rfl ?_
      intro K hK
      have n25 : listed.getD 25 false = false := by
        cases h : listed.getD 25 false with
        | false => rfl
        | true => rw [hcl 25 14 h (of_decide_eq_true (by kernel_rfl))] at hl; cases hl
      obtain ⟨hb, hG⟩ : Below W.heap.size W w ∧ MoreG W.heap.size ps ⟨x, y, 1 + (q : Int)⟩ listed (a.tmps) w := by
        rcases hI with ⟨_, hb, hG⟩ | ⟨h, _⟩
        · exact ⟨hb, hG⟩
        · rw [n25] at h; cases h
      have q37_ : a.tmps[37]? = some (.pointer (some ⟨sb, so + j * 4, none⟩)) := hS.val 13 37 _ (hd 13 (of_decide_eq_true (by kernel_rfl))) rfl rfl
      go_simp
      exact hK _ _ ⟨hS.put hn 14 38 _ rfl (by rw [hsz0]; omega) (fun u h => by injection h with h; injection h with h; exact h.symm), .inl ⟨by rw [getD_set hls, if_neg (by omega)]; exact n25, hb, hG.same _ hls (by omega) (by omega)⟩⟩
    ·
      refine wpOp_step (o := { dst := some 39, op := Op.load 3 (Operand.tmp 38), type := 3, pos := "law.go:83", after := #[{ on := 14, ground := Ground.data }], guard := none }) rfl ?_
      intro K hK
      have n25 : listed.getD 25 false = false := by
        cases h : listed.getD 25 false with
        | false => rfl
        | true => rw [hcl 25 15 h (of_decide_eq_true (by kernel_rfl))] at hl; cases hl
      obtain ⟨hb, hG⟩ : Below W.heap.size W w ∧ MoreG W.heap.size ps ⟨x, y, 1 + (q : Int)⟩ listed (a.tmps) w := by
        rcases hI with ⟨_, hb, hG⟩ | ⟨h, _⟩
        · exact ⟨hb, hG⟩
        · rw [n25] at h; cases h
      have q38_ : a.tmps[38]? = some (.pointer (some ⟨sb, so + j * 4 + 2, none⟩)) := hS.val 14 38 _ (hd 14 (of_decide_eq_true (by kernel_rfl))) rfl rfl
      have mm := hs.next hb
      have m0 := mm.c0
      have m1 := mm.c1
      have m2 := mm.c2
      have m3 := mm.c3
      go_simp
      exact hK _ _ ⟨hS.put hn 15 39 _ rfl (by rw [hsz0]; omega) (fun u h => by injection h with h; injection h with h; exact h.symm), .inl ⟨by rw [getD_set hls, if_neg (by omega)]; exact n25, hb, hG.same _ hls (by omega) (by omega)⟩⟩
    ·
      refine wpOp_step (o := { dst := some 40, op := Op.move (Operand.tmp 2), type := 3, pos := "law.go:83", after := #[], guard := none }) rfl ?_
      intro K hK
      have n25 : listed.getD 25 false = false := by
        cases h : listed.getD 25 false with
        | false => rfl
        | true => rw [hcl 25 16 h (of_decide_eq_true (by kernel_rfl))] at hl; cases hl
      obtain ⟨hb, hG⟩ : Below W.heap.size W w ∧ MoreG W.heap.size ps ⟨x, y, 1 + (q : Int)⟩ listed (a.tmps) w := by
        rcases hI with ⟨_, hb, hG⟩ | ⟨h, _⟩
        · exact ⟨hb, hG⟩
        · rw [n25] at h; cases h
      have q2_ : a.tmps[2]? = some (.int .i64 r) := (hS.keep 2 (of_decide_eq_true (by kernel_rfl))).trans h2_
      go_simp
      exact hK _ _ ⟨hS.put hn 16 40 _ rfl (by rw [hsz0]; omega) (fun u h => by injection h with h; injection h with h; exact h.symm), .inl ⟨by rw [getD_set hls, if_neg (by omega)]; exact n25, hb, hG.same _ hls (by omega) (by omega)⟩⟩
    ·
      refine wpOp_step (o := { dst := some 41, op := Op.convert 3 35 (Operand.tmp 40), type := 35, pos := "law.go:83", after := #[{ on := 16, ground := Ground.data }], guard := none }) rfl ?_
      intro K hK
      have n25 : listed.getD 25 false = false := by
        cases h : listed.getD 25 false with
        | false => rfl
        | true => rw [hcl 25 17 h (of_decide_eq_true (by kernel_rfl))] at hl; cases hl
      obtain ⟨hb, hG⟩ : Below W.heap.size W w ∧ MoreG W.heap.size ps ⟨x, y, 1 + (q : Int)⟩ listed (a.tmps) w := by
        rcases hI with ⟨_, hb, hG⟩ | ⟨h, _⟩
        · exact ⟨hb, hG⟩
        · rw [n25] at h; cases h
      have q40_ : a.tmps[40]? = some (.int .i64 r) := hS.val 16 40 _ (hd 16 (of_decide_eq_true (by kernel_rfl))) rfl rfl
      go_simp
      exact hK _ _ ⟨hS.put hn 17 41 _ rfl (by rw [hsz0]; omega) (fun u h => by injection h with h; injection h with h; exact h.symm), .inl ⟨by rw [getD_set hls, if_neg (by omega)]; exact n25, hb, hG.same _ hls (by omega) (by omega)⟩⟩
    ·
      refine wpOp_step (o := { dst := some 42, op := Op.binOp BinOp.rem 35 (Operand.tmp 41) (Operand.const (Value.int IntKind.u64 30)) 35, type := 35, pos := "law.go:83", after := #[{ on := 17, ground := Ground.data }], guard := none }) rfl ?_
      intro K hK
      have n25 : listed.getD 25 false = false := by
        cases h : listed.getD 25 false with
        | false => rfl
        | true => rw [hcl 25 18 h (of_decide_eq_true (by kernel_rfl))] at hl; cases hl
      obtain ⟨hb, hG⟩ : Below W.heap.size W w ∧ MoreG W.heap.size ps ⟨x, y, 1 + (q : Int)⟩ listed (a.tmps) w := by
        rcases hI with ⟨_, hb, hG⟩ | ⟨h, _⟩
        · exact ⟨hb, hG⟩
        · rw [n25] at h; cases h
      have q41_ : a.tmps[41]? = some (.int .u64 (IntKind.u64.wrap r)) := hS.val 17 41 _ (hd 17 (of_decide_eq_true (by kernel_rfl))) rfl rfl
      go_simp
      exact hK _ _ ⟨hS.put hn 18 42 _ rfl (by rw [hsz0]; omega) (fun u h => by injection h with h; injection h with h; exact h.symm), .inl ⟨by rw [getD_set hls, if_neg (by omega)]; exact n25, hb, hG.same _ hls (by omega) (by omega)⟩⟩
    ·
      refine wpOp_step (o := { dst := some 43, op := Op.convert 35 3 (Operand.tmp 42), type := 3, pos := "law.go:83", after := #[{ on := 18, ground := Ground.data }], guard := none }) rfl ?_
      intro K hK
      have n25 : listed.getD 25 false = false := by
        cases h : listed.getD 25 false with
        | false => rfl
        | true => rw [hcl 25 19 h (of_decide_eq_true (by kernel_rfl))] at hl; cases hl
      obtain ⟨hb, hG⟩ : Below W.heap.size W w ∧ MoreG W.heap.size ps ⟨x, y, 1 + (q : Int)⟩ listed (a.tmps) w := by
        rcases hI with ⟨_, hb, hG⟩ | ⟨h, _⟩
        · exact ⟨hb, hG⟩
        · rw [n25] at h; cases h
      have q42_ : a.tmps[42]? = some (.int .u64 q) := hS.val 18 42 _ (hd 18 (of_decide_eq_true (by kernel_rfl))) rfl rfl
      go_simp
      exact hK _ _ ⟨hS.put hn 19 43 _ rfl (by rw [hsz0]; omega) (fun u h => by injection h with h; injection h with h; exact h.symm), .inl ⟨by rw [getD_set hls, if_neg (by omega)]; exact n25, hb, hG.same _ hls (by omega) (by omega)⟩⟩
    ·
      refine wpOp_step (o := { dst := some 44, op := Op.binOp BinOp.add 3 (Operand.const (Value.int IntKind.i64 1)) (Operand.tmp 43) 3, type := 3, pos := "law.go:83", after := #[{ on := 19, ground := Ground.data }], guard := none }) rfl ?_
      intro K hK
      have n25 : listed.getD 25 false = false := by
        cases h : listed.getD 25 false with
        | false => rfl
        | true => rw [hcl 25 20 h (of_decide_eq_true (by kernel_rfl))] at hl; cases hl
      obtain ⟨hb, hG⟩ : Below W.heap.size W w ∧ MoreG W.heap.size ps ⟨x, y, 1 + (q : Int)⟩ listed (a.tmps) w := by
        rcases hI with ⟨_, hb, hG⟩ | ⟨h, _⟩
        · exact ⟨hb, hG⟩
        · rw [n25] at h; cases h
      have q43_ : a.tmps[43]? = some (.int .i64 (q : Int)) := hS.val 19 43 _ (hd 19 (of_decide_eq_true (by kernel_rfl))) rfl rfl
      go_simp
      exact hK _ _ ⟨hS.put hn 20 44 _ rfl (by rw [hsz0]; omega) (fun u h => by injection h with h; injection h with h; exact h.symm), .inl ⟨by rw [getD_set hls, if_neg (by omega)]; exact n25, hb, hG.same _ hls (by omega) (by omega)⟩⟩
    ·
      refine wpOp_step (o := { dst := some 45, op := Op.build 41 #[(0, Operand.tmp 33), (1, Operand.tmp 39), (2, Operand.tmp 44)], type := 41, pos := "law.go:83", after := #[{ on := 9, ground := Ground.data }, { on := 15, ground := Ground.data }, { on := 20, ground := Ground.data }], guard := none }) rfl ?_
      intro K hK
      have n25 : listed.getD 25 false = false := by
        cases h : listed.getD 25 false with
        | false => rfl
        | true => rw [hcl 25 21 h (of_decide_eq_true (by kernel_rfl))] at hl; cases hl
      obtain ⟨hb, hG⟩ : Below W.heap.size W w ∧ MoreG W.heap.size ps ⟨x, y, 1 + (q : Int)⟩ listed (a.tmps) w := by
        rcases hI with ⟨_, hb, hG⟩ | ⟨h, _⟩
        · exact ⟨hb, hG⟩
        · rw [n25] at h; cases h
      have q33_ : a.tmps[33]? = some (.int .i64 x) := hS.val 9 33 _ (hd 9 (of_decide_eq_true (by kernel_rfl))) rfl rfl
      have q39_ : a.tmps[39]? = some (.int .i64 y) := hS.val 15 39 _ (hd 15 (of_decide_eq_true (by kernel_rfl))) rfl rfl
      have q44_ : a.tmps[44]? = some (.int .i64 (1 + (q : Int))) := hS.val 20 44 _ (hd 20 (of_decide_eq_true (by kernel_rfl))) rfl rfl
      go_simp
      exact hK _ _ ⟨hS.put hn 21 45 _ rfl (by rw [hsz0]; omega) (fun u h => by injection h with h; injection h with h; exact h.symm), .inl ⟨by rw [getD_set hls, if_neg (by omega)]; exact n25, hb, hG.same _ hls (by omega) (by omega)⟩⟩
    ·
      refine wpOp_step (o := { dst := some 46, op := Op.buildSlice 24 1 #[(0, Operand.tmp 45)], type := 24, pos := "law.go:83", after := #[{ on := 21, ground := Ground.data }], guard := none }) rfl ?_
      intro K hK
      have n25 : listed.getD 25 false = false := by
        cases h : listed.getD 25 false with
        | false => rfl
        | true => rw [hcl 25 22 h (of_decide_eq_true (by kernel_rfl))] at hl; cases hl
      obtain ⟨hb, hG⟩ : Below W.heap.size W w ∧ MoreG W.heap.size ps ⟨x, y, 1 + (q : Int)⟩ listed (a.tmps) w := by
        rcases hI with ⟨_, hb, hG⟩ | ⟨h, _⟩
        · exact ⟨hb, hG⟩
        · rw [n25] at h; cases h
      have q45_ : a.tmps[45]? = some (.agg #[.int .i64 x, .int .i64 y, .int .i64 (1 + (q : Int))]) := hS.val 21 45 _ (hd 21 (of_decide_eq_true (by kernel_rfl))) rfl rfl
      have n23 : listed.getD 23 false = false := by
        cases h : listed.getD 23 false with
        | false => rfl
        | true => rw [hcl 23 22 h (of_decide_eq_true (by kernel_rfl))] at hl; cases hl
      go_simp
      exact hK _ _ ⟨hS.put hn 22 46 _ rfl (by rw [hsz0]; omega) (fun u h => by cases h), .inl ⟨by rw [getD_set hls, if_neg (by omega)]; exact n25, hb.alloc hb.size _, hG.lit hls hsz.out n23⟩⟩
    ·
      refine wpOp_step (o := { dst := some 47, op := Op.call { callee := Callee.builtin Builtin.append, args := #[Operand.tmp 27, Operand.tmp 46], argTypes := #[24, 24] }, type := 24, pos := "law.go:83", after := #[{ on := 3, ground := Ground.data }, { on := 22, ground := Ground.data }, { on := 3, ground := Ground.chain }], guard := none }) rfl ?_
      intro K hK
      have n25 : listed.getD 25 false = false := by
        cases h : listed.getD 25 false with
        | false => rfl
        | true => rw [hcl 25 23 h (of_decide_eq_true (by kernel_rfl))] at hl; cases hl
      obtain ⟨hb, hG⟩ : Below W.heap.size W w ∧ MoreG W.heap.size ps ⟨x, y, 1 + (q : Int)⟩ listed (a.tmps) w := by
        rcases hI with ⟨_, hb, hG⟩ | ⟨h, _⟩
        · exact ⟨hb, hG⟩
        · rw [n25] at h; cases h
      obtain ⟨v, e27, hv27⟩ := hG.2.1 (hd 3 (of_decide_eq_true (by kernel_rfl))) hl
      obtain ⟨g, e46, hx46⟩ := hG.2.2.1 (hd 22 (of_decide_eq_true (by kernel_rfl))) hl
      refine step_append_poles rfl (.tmp 27) (.tmp 46) rfl W.heap.size 0 _ _ ps [⟨x, y, 1 + (q : Int)⟩] (eval_of e27) hv27 (eval_of e46) (Poles.one hx46) (by omega) (by simp) hb.size ?_
      intro v' w' hv hgr
      exact hK _ _ ⟨hS.put hn 23 47 _ rfl (by rw [hsz0]; omega) (fun u h => by cases h), .inl ⟨by rw [getD_set hls, if_neg (by omega)]; exact n25, hb.grown hgr hb.size (fun t ht => (World.ownsRow.lt hv27 t ht).1), MoreG.all hls hsz.out (hd 3 (of_decide_eq_true (by kernel_rfl))) hv⟩⟩
    ·
      refine wpOp_step (o := { dst := some 48, op := Op.fieldAddr 26 (Operand.tmp 9) 4, type := 0, pos := "law.go:83", after := #[{ on := 0, ground := Ground.phase }, { on := 1, ground := Ground.phase }, { on := 2, ground := Ground.phase }, { on := 3, ground := Ground.phase }, { on := 4, ground := Ground.phase }, { on := 5, ground := Ground.phase }, { on := 6, ground := Ground.phase }, { on := 7, ground := Ground.phase }, { on := 8, ground := Ground.phase }, { on := 9, ground := Ground.phase }, { on := 10, ground := Ground.phase }, { on := 11, ground := Ground.phase }, { on := 12, ground := Ground.phase }, { on := 13, ground := Ground.phase }, { on := 14, ground := Ground.phase }, { on := 15, ground := Ground.phase }, { on := 16, ground := Ground.phase }, { on := 17, ground := Ground.phase }, { on := 18, ground := Ground.phase }, { on := 19, ground := Ground.phase }, { on := 20, ground := Ground.phase }, { on := 21, ground := Ground.phase }, { on := 22, ground := Ground.phase }, { on := 23, ground := Ground.phase }], guard := none }) rfl ?_
      intro K hK
      have n25 : listed.getD 25 false = false := by
        cases h : listed.getD 25 false with
        | false => rfl
        | true => rw [hcl 25 24 h (of_decide_eq_true (by kernel_rfl))] at hl; cases hl
      obtain ⟨hb, hG⟩ : Below W.heap.size W w ∧ MoreG W.heap.size ps ⟨x, y, 1 + (q : Int)⟩ listed (a.tmps) w := by
        rcases hI with ⟨_, hb, hG⟩ | ⟨h, _⟩
        · exact ⟨hb, hG⟩
        · rw [n25] at h; cases h
      have q9_ : a.tmps[9]? = some (.pointer (some ⟨b9, 0, none⟩)) := (hS.keep 9 (of_decide_eq_true (by kernel_rfl))).trans h9_
      go_simp
      exact hK _ _ ⟨hS.put hn 24 48 _ rfl (by rw [hsz0]; omega) (fun u h => by injection h with h; injection h with h; exact h.symm), .inl ⟨by rw [getD_set hls, if_neg (by omega)]; exact n25, hb, hG.same _ hls (by omega) (by omega)⟩⟩
    ·
      refine wpOp_step (o := { dst := none, op := Op.store 24 (Operand.tmp 48) (Operand.tmp 47), type := 0, pos := "law.go:83", after := #[{ on := 24, ground := Ground.data }, { on := 23, ground := Ground.data }, { on := 23, ground := Ground.chain }, { on := 0, ground := Ground.phase }, { on := 1, ground := Ground.phase }, { on := 2, ground := Ground.phase }, { on := 3, ground := Ground.phase }, { on := 4, ground := Ground.phase }, { on := 5, ground := Ground.phase }, { on := 6, ground := Ground.phase }, { on := 7, ground := Ground.phase }, { on := 8, ground := Ground.phase }, { on := 9, ground := Ground.phase }, { on := 10, ground := Ground.phase }, { on := 11, ground := Ground.phase }, { on := 12, ground := Ground.phase }, { on := 13, ground := Ground.phase }, { on := 14, ground := Ground.phase }, { on := 15, ground := Ground.phase }, { on := 16, ground := Ground.phase }, { on := 17, ground := Ground.phase }, { on := 18, ground := Ground.phase }, { on := 19, ground := Ground.phase }, { on := 20, ground := Ground.phase }, { on := 21, ground := Ground.phase }, { on := 22, ground := Ground.phase }, { on := 23, ground := Ground.phase }], guard := none }) rfl ?_
      intro K hK
      obtain ⟨hb, hG⟩ : Below W.heap.size W w ∧ MoreG W.heap.size ps ⟨x, y, 1 + (q : Int)⟩ listed (a.tmps) w := by
        rcases hI with ⟨_, hb, hG⟩ | ⟨h, _⟩
        · exact ⟨hb, hG⟩
        · rw [hl] at h; cases h
      have q48_ : a.tmps[48]? = some (.pointer (some ⟨b9, 4, none⟩)) := hS.val 24 48 _ (hd 24 (of_decide_eq_true (by kernel_rfl))) rfl rfl
      obtain ⟨v, e47, hv47⟩ := hG.2.2.2 (hd 23 (of_decide_eq_true (by kernel_rfl)))
      have hy9 := hy.next hb
      have m0 := hy9.cell 4 _ rfl
      have z0 := hy9.frozen 4
      have l0 := hy9.lt
      obtain ⟨ra, rc, rfl⟩ := row_slice hv47
      rw [show (ps ++ [(⟨x, y, 1 + (q : Int)⟩ : Pole)]).length = ps.length + 1 by simp] at e47 hv47
      go_simp
      exact hK _ _ ⟨hS.skip 25 rfl, .inr ⟨by rw [getD_set hls, if_pos rfl], w, _, rfl, hb, e47, hv47⟩⟩
  · intro listed a w hall ⟨hS, hI⟩
    rcases hI with ⟨h, _⟩ | ⟨_, w1, v47, rfl, hb, hv47, hown⟩
    · rw [hall 25 (by decide)] at h; cases h
    have hsz : a.tmps.size = 91 := hS.size.trans hsz0
    obtain ⟨v24, hv24⟩ := slot_of (a := a) (k := 24) (by rw [hsz]; omega)
    obtain ⟨v27, hv27⟩ := slot_of (a := a) (k := 27) (by rw [hsz]; omega)
    obtain ⟨v46, hv46⟩ := slot_of (a := a) (k := 46) (by rw [hsz]; omega)
    have hf := hS.frame [(24, v24), (25, .pointer (some ⟨b7, 4, none⟩)), (26, .slice a3 ps.length c3), (27, v27), (28, .pointer (some ⟨b7, 0, none⟩)), (29, .slice (some ⟨sb, so, none⟩) n1 c1), (30, .int .i64 (j : Int)), (31, .pointer (some ⟨sb, so + j * 4, none⟩)), (32, .pointer (some ⟨sb, so + j * 4 + 1, none⟩)), (33, .int .i64 x), (34, .pointer (some ⟨b7, 0, none⟩)), (35, .slice (some ⟨sb, so, none⟩) n1 c1), (36, .int .i64 (j : Int)), (37, .pointer (some ⟨sb, so + j * 4, none⟩)), (38, .pointer (some ⟨sb, so + j * 4 + 2, none⟩)), (39, .int .i64 y), (40, .int .i64 r), (41, .int .u64 (IntKind.u64.wrap r)), (42, .int .u64 q), (43, .int .i64 (q : Int)), (44, .int .i64 (1 + (q : Int))), (45, .agg #[.int .i64 x, .int .i64 y, .int .i64 (1 + (q : Int))]), (46, v46), (47, v47), (48, .pointer (some ⟨b9, 4, none⟩))] rfl (of_decide_eq_true (by kernel_rfl)) (by
      simp only [List.map_cons, List.map_nil, List.all_cons, List.all_nil, hsz0]; rfl) (by
      intro p hp
      simp only [List.mem_cons, List.not_mem_nil, or_false] at hp
      rcases hp with rfl | rfl | rfl | rfl | rfl | rfl | rfl | rfl | rfl | rfl | rfl | rfl | rfl | rfl | rfl | rfl | rfl | rfl | rfl | rfl | rfl | rfl | rfl | rfl | rfl
      · exact hv24
      · exact hS.val 1 25 _ (hall 1 (by decide)) rfl rfl
      · exact hS.val 2 26 _ (hall 2 (by decide)) rfl rfl
      · exact hv27
      · exact hS.val 4 28 _ (hall 4 (by decide)) rfl rfl
      · exact hS.val 5 29 _ (hall 5 (by decide)) rfl rfl
      · exact hS.val 6 30 _ (hall 6 (by decide)) rfl rfl
      · exact hS.val 7 31 _ (hall 7 (by decide)) rfl rfl
      · exact hS.val 8 32 _ (hall 8 (by decide)) rfl rfl
      · exact hS.val 9 33 _ (hall 9 (by decide)) rfl rfl
      · exact hS.val 10 34 _ (hall 10 (by decide)) rfl rfl
      · exact hS.val 11 35 _ (hall 11 (by decide)) rfl rfl
      · exact hS.val 12 36 _ (hall 12 (by decide)) rfl rfl
      · exact hS.val 13 37 _ (hall 13 (by decide)) rfl rfl
      · exact hS.val 14 38 _ (hall 14 (by decide)) rfl rfl
      · exact hS.val 15 39 _ (hall 15 (by decide)) rfl rfl
      · exact hS.val 16 40 _ (hall 16 (by decide)) rfl rfl
      · exact hS.val 17 41 _ (hall 17 (by decide)) rfl rfl
      · exact hS.val 18 42 _ (hall 18 (by decide)) rfl rfl
      · exact hS.val 19 43 _ (hall 19 (by decide)) rfl rfl
      · exact hS.val 20 44 _ (hall 20 (by decide)) rfl rfl
      · exact hS.val 21 45 _ (hall 21 (by decide)) rfl rfl
      · exact hv46
      · exact hv47
      · exact hS.val 24 48 _ (hall 24 (by decide)) rfl rfl)
    rw [hf]
    exact hQ w1 v24 v27 v46 v47 hb hown
set_option maxHeartbeats 16000000 in
theorem two_region {Q : Exit → Act → World → Prop} (a0 : Act) (W : World) (hsz0 : a0.tmps.size = 91) (b7 b9 : Nat) (a1 a2 a3 a4 : Option Addr) (n1 c1 n2 c2 n3 c3 n4 c4 : Nat) (gap rad : Int) (U1 U2 : List Bool) (hx : Box W b7 26 #[.slice a1 n1 c1, .int .i64 gap, .int .i64 rad, .slice a2 n2 c2, .slice a3 n3 c3]) (hy : Box W b9 26 #[.slice a1 n1 c1, .int .i64 gap, .int .i64 rad, .slice a2 n2 c2, .slice a4 n4 c4])
    (h7_ : a0.tmps[7]? = some (.pointer (some ⟨b7, 0, none⟩))) (h9_ : a0.tmps[9]? = some (.pointer (some ⟨b9, 0, none⟩)))
    (hc1 : ∀ w, Below W.heap.size W w → Calls Try.prog 11 #[.agg #[.slice a1 n1 c1, .int .i64 gap, .int .i64 rad, .slice a2 n2 c2, .slice a3 n3 c3]] w fun e w' => ∃ v, e = .returned v ∧ MarksV w' v U1 ∧ Below w.heap.size w w')
    (hc3 : ∀ w, Below W.heap.size W w → Calls Try.prog 11 #[.agg #[.slice a1 n1 c1, .int .i64 gap, .int .i64 rad, .slice a2 n2 c2, .slice a4 n4 c4]] w fun e w' => ∃ v, e = .returned v ∧ MarksV w' v U2 ∧ Below w.heap.size w w')
    (hQ : ∀ w' v1 v3 v4 v5, Below W.heap.size W w' → MarksV w' v4 U1 → MarksV w' v5 U2 → Q .normal { tmps := putAll a0.tmps [(49, .agg #[.slice a1 n1 c1, .int .i64 gap, .int .i64 rad, .slice a2 n2 c2, .slice a3 n3 c3]), (50, v1), (51, .agg #[.slice a1 n1 c1, .int .i64 gap, .int .i64 rad, .slice a2 n2 c2, .slice a4 n4 c4]), (52, v3), (10, v4), (11, v5)], defers := a0.defers } w') :
    (Code.region 5 #[{ dst := some 49, op := Op.load 26 (Operand.tmp 7), type := 26, pos := "law.go:84", after := #[], guard := none }, { dst := some 50, op := Op.call { callee := Callee.value (Operand.func 11), args := #[Operand.tmp 49], argTypes := #[26] }, type := 29, pos := "law.go:84", after := #[{ on := 0, ground := Ground.data }], guard := none }, { dst := some 51, op := Op.load 26 (Operand.tmp 9), type := 26, pos := "law.go:84", after := #[], guard := none }, { dst := some 52, op := Op.call { callee := Callee.value (Operand.func 11), args := #[Operand.tmp 51], argTypes := #[26] }, type := 29, pos := "law.go:84", after := #[{ on := 2, ground := Ground.data }, { on := 1, ground := Ground.chain }], guard := none }, { dst := some 10, op := Op.assign (Operand.tmp 50), type := 29, pos := "law.go:84", after := #[{ on := 1, ground := Ground.data }, { on := 3, ground := Ground.chain }, { on := 0, ground := Ground.phase }, { on := 1, ground := Ground.phase }, { on := 2, ground := Ground.textOnly Departure.lateStores }, { on := 3, ground := Ground.textOnly Departure.lateStoresUnsure }], guard := none }, { dst := some 11, op := Op.assign (Operand.tmp 52), type := 29, pos := "law.go:84", after := #[{ on := 3, ground := Ground.data }, { on := 4, ground := Ground.chain }, { on := 0, ground := Ground.phase }, { on := 1, ground := Ground.phase }, { on := 2, ground := Ground.phase }, { on := 3, ground := Ground.phase }, { on := 4, ground := Ground.phase }], guard := none }] true).wp Try.prog Q a0 W := by
  have hn : ([some 49, some 50, some 51, some 52, some 10, some 11] : List (Option Nat)).Pairwise (fun x y => x = none ∨ x ≠ y) := of_decide_eq_true (by kernel_rfl)
  refine wp_region_inv mixed (fun listed a w => Slots a0 [some 49, some 50, some 51, some 52, some 10, some 11] [some (.agg #[.slice a1 n1 c1, .int .i64 gap, .int .i64 rad, .slice a2 n2 c2, .slice a3 n3 c3]), none, some (.agg #[.slice a1 n1 c1, .int .i64 gap, .int .i64 rad, .slice a2 n2 c2, .slice a4 n4 c4]), none, none, none] listed a ∧ Below W.heap.size W w ∧ (listed.getD 1 false = true → ∃ v, a.tmps[50]? = some v ∧ MarksV w v U1) ∧ (listed.getD 3 false = true → ∃ v, a.tmps[52]? = some v ∧ MarksV w v U2) ∧ (listed.getD 4 false = true → ∃ v, a.tmps[10]? = some v ∧ MarksV w v U1) ∧ (listed.getD 5 false = true → ∃ v, a.tmps[11]? = some v ∧ MarksV w v U2)) (by kernel_rfl) ?_ ?_ ?_
  · exact ⟨Slots.start _ _ _ _, (Below.refl _ W).drew, fun h => (by rw [start_false] at h; cases h), fun h => (by rw [start_false] at h; cases h), fun h => (by rw [start_false] at h; cases h), fun h => (by rw [start_false] at h; cases h)⟩
  · intro listed a w i' hsl hilt hl hd hcl ⟨hS, hb, hA1, hA3, hA4, hA5⟩
    have hsz : Hid (a.tmps.size = 91) := hS.size.trans hsz0
    have hls : i' < listed.size := by rw [hsl]; exact hilt
    have hcase : i' = 0 ∨ i' = 1 ∨ i' = 2 ∨ i' = 3 ∨ i' = 4 ∨ i' = 5 := by
      have : i' < 6 := hilt
      omega
    rcases hcase with rfl | rfl | rfl | rfl | rfl | rfl
    ·
      refine wpOp_step (o := { dst := some 49, op := Op.load 26 (Operand.tmp 7), type := 26, pos := "law.go:84", after := #[], guard := none }) rfl ?_
      intro K hK
      have q7_ : a.tmps[7]? = some (.pointer (some ⟨b7, 0, none⟩)) := (hS.keep 7 (of_decide_eq_true (by kernel_rfl))).trans h7_
      have m0 := (hx.next hb).cell 0 _ rfl
      have m1 := (hx.next hb).cell 1 _ rfl
      have m2 := (hx.next hb).cell 2 _ rfl
      have m3 := (hx.next hb).cell 3 _ rfl
      have m4 := (hx.next hb).cell 4 _ rfl
      go_simp
      exact hK _ _ ⟨hS.put hn 0 49 _ rfl (by rw [hsz0]; omega) (fun u h => by injection h with h; injection h with h; exact h.symm), hb, fun h => by
        rw [getD_set hls, if_neg (by omega)] at h
        obtain ⟨v, hv1, hv2⟩ := hA1 h
        exact ⟨v, by simpa using hv1, hv2⟩, fun h => by
        rw [getD_set hls, if_neg (by omega)] at h
        obtain ⟨v, hv1, hv2⟩ := hA3 h
        exact ⟨v, by simpa using hv1, hv2⟩, fun h => by
        rw [getD_set hls, if_neg (by omega)] at h
        obtain ⟨v, hv1, hv2⟩ := hA4 h
        exact ⟨v, by simpa using hv1, hv2⟩, fun h => by
        rw [getD_set hls, if_neg (by omega)] at h
        obtain ⟨v, hv1, hv2⟩ := hA5 h
        exact ⟨v, by simpa using hv1, hv2⟩⟩
    ·
      refine wpOp_step (o := { dst := some 50, op := Op.call { callee := Callee.value (Operand.func 11), args := #[Operand.tmp 49], argTypes := #[26] }, type := 29, pos := "law.go:84", after := #[{ on := 0, ground := Ground.data }], guard := none }) rfl ?_
      intro K hK
      have q49_ : a.tmps[49]? = some (.agg #[.slice a1 n1 c1, .int .i64 gap, .int .i64 rad, .slice a2 n2 c2, .slice a3 n3 c3]) := hS.val 0 49 _ (hd 0 (of_decide_eq_true (by kernel_rfl))) rfl rfl
      have hc := hc1 w hb
      go_simp
      go_at_call 11
      refine hc.mono ?_
      rintro e w' ⟨v, rfl, hrow, hb2⟩
      have hs2 : 50 < a.tmps.size := by rw [hsz.out]; omega
      exact hK _ _ ⟨hS.put hn 1 50 _ rfl (by rw [hsz0]; omega) (fun u h => by cases h), hb.trans (hb2.mono hb.size), fun h => ⟨v, by simp [hs2], hrow⟩, fun h => by
        rw [getD_set hls, if_neg (by omega)] at h
        obtain ⟨v, hv1, hv2⟩ := hA3 h
        exact ⟨v, by simpa using hv1, hv2.next hb2⟩, fun h => by
        rw [getD_set hls, if_neg (by omega)] at h
        obtain ⟨v, hv1, hv2⟩ := hA4 h
        exact ⟨v, by simpa using hv1, hv2.next hb2⟩, fun h => by
        rw [getD_set hls, if_neg (by omega)] at h
        obtain ⟨v, hv1, hv2⟩ := hA5 h
        exact ⟨v, by simpa using hv1, hv2.next hb2⟩⟩
    ·
      refine wpOp_step (o := { dst := some 51, op := Op.load 26 (Operand.tmp 9), type := 26, pos := "law.go:84", after := #[], guard := none }) rfl ?_
      intro K hK
      have q9_ : a.tmps[9]? = some (.pointer (some ⟨b9, 0, none⟩)) := (hS.keep 9 (of_decide_eq_true (by kernel_rfl))).trans h9_
      have m0 := (hy.next hb).cell 0 _ rfl
      have m1 := (hy.next hb).cell 1 _ rfl
      have m2 := (hy.next hb).cell 2 _ rfl
      have m3 := (hy.next hb).cell 3 _ rfl
      have m4 := (hy.next hb).cell 4 _ rfl
      go_simp
      exact hK _ _ ⟨hS.put hn 2 51 _ rfl (by rw [hsz0]; omega) (fun u h => by injection h with h; injection h with h; exact h.symm), hb, fun h => by
        rw [getD_set hls, if_neg (by omega)] at h
        obtain ⟨v, hv1, hv2⟩ := hA1 h
        exact ⟨v, by simpa using hv1, hv2⟩, fun h => by
        rw [getD_set hls, if_neg (by omega)] at h
        obtain ⟨v, hv1, hv2⟩ := hA3 h
        exact ⟨v, by simpa using hv1, hv2⟩, fun h => by
        rw [getD_set hls, if_neg (by omega)] at h
        obtain ⟨v, hv1, hv2⟩ := hA4 h
        exact ⟨v, by simpa using hv1, hv2⟩, fun h => by
        rw [getD_set hls, if_neg (by omega)] at h
        obtain ⟨v, hv1, hv2⟩ := hA5 h
        exact ⟨v, by simpa using hv1, hv2⟩⟩
    ·
      refine wpOp_step (o := { dst := some 52, op := Op.call { callee := Callee.value (Operand.func 11), args := #[Operand.tmp 51], argTypes := #[26] }, type := 29, pos := "law.go:84", after := #[{ on := 2, ground := Ground.data }, { on := 1, ground := Ground.chain }], guard := none }) rfl ?_
      intro K hK
      have q51_ : a.tmps[51]? = some (.agg #[.slice a1 n1 c1, .int .i64 gap, .int .i64 rad, .slice a2 n2 c2, .slice a4 n4 c4]) := hS.val 2 51 _ (hd 2 (of_decide_eq_true (by kernel_rfl))) rfl rfl
      have hc := hc3 w hb
      go_simp
      go_at_call 11
      refine hc.mono ?_
      rintro e w' ⟨v, rfl, hrow, hb2⟩
      have hs2 : 52 < a.tmps.size := by rw [hsz.out]; omega
      exact hK _ _ ⟨hS.put hn 3 52 _ rfl (by rw [hsz0]; omega) (fun u h => by cases h), hb.trans (hb2.mono hb.size), fun h => by
        rw [getD_set hls, if_neg (by omega)] at h
        obtain ⟨v, hv1, hv2⟩ := hA1 h
        exact ⟨v, by simpa using hv1, hv2.next hb2⟩, fun h => ⟨v, by simp [hs2], hrow⟩, fun h => by
        rw [getD_set hls, if_neg (by omega)] at h
        obtain ⟨v, hv1, hv2⟩ := hA4 h
        exact ⟨v, by simpa using hv1, hv2.next hb2⟩, fun h => by
        rw [getD_set hls, if_neg (by omega)] at h
        obtain ⟨v, hv1, hv2⟩ := hA5 h
        exact ⟨v, by simpa using hv1, hv2.next hb2⟩⟩
    ·
      refine wpOp_step (o := { dst := some 10, op := Op.assign (Operand.tmp 50), type := 29, pos := "law.go:84", after := #[{ on := 1, ground := Ground.data }, { on := 3, ground := Ground.chain }, { on := 0, ground := Ground.phase }, { on := 1, ground := Ground.phase }, { on := 2, ground := Ground.textOnly Departure.lateStores }, { on := 3, ground := Ground.textOnly Departure.lateStoresUnsure }], guard := none }) rfl ?_
      intro K hK
      obtain ⟨v, hv_, hp_⟩ := hA1 (hd 1 (of_decide_eq_true (by kernel_rfl)))
      have hs2 : 10 < a.tmps.size := by rw [hsz.out]; omega
      go_simp
      exact hK _ _ ⟨hS.put hn 4 10 _ rfl (by rw [hsz0]; omega) (fun u h => by cases h), hb, fun h => by
        rw [getD_set hls, if_neg (by omega)] at h
        obtain ⟨v, hv1, hv2⟩ := hA1 h
        exact ⟨v, by simpa using hv1, hv2⟩, fun h => by
        rw [getD_set hls, if_neg (by omega)] at h
        obtain ⟨v, hv1, hv2⟩ := hA3 h
        exact ⟨v, by simpa using hv1, hv2⟩, fun h => ⟨v, by simp [hs2], hp_⟩, fun h => by
        rw [getD_set hls, if_neg (by omega)] at h
        obtain ⟨v, hv1, hv2⟩ := hA5 h
        exact ⟨v, by simpa using hv1, hv2⟩⟩
    ·
      refine wpOp_step (o := { dst := some 11, op := Op.assign (Operand.tmp 52), type := 29, pos := "law.go:84", after := #[{ on := 3, ground := Ground.data }, { on := 4, ground := Ground.chain }, { on := 0, ground := Ground.phase }, { on := 1, ground := Ground.phase }, { on := 2, ground := Ground.phase }, { on := 3, ground := Ground.phase }, { on := 4, ground := Ground.phase }], guard := none }) rfl ?_
      intro K hK
      obtain ⟨v, hv_, hp_⟩ := hA3 (hd 3 (of_decide_eq_true (by kernel_rfl)))
      have hs2 : 11 < a.tmps.size := by rw [hsz.out]; omega
      go_simp
      exact hK _ _ ⟨hS.put hn 5 11 _ rfl (by rw [hsz0]; omega) (fun u h => by cases h), hb, fun h => by
        rw [getD_set hls, if_neg (by omega)] at h
        obtain ⟨v, hv1, hv2⟩ := hA1 h
        exact ⟨v, by simpa using hv1, hv2⟩, fun h => by
        rw [getD_set hls, if_neg (by omega)] at h
        obtain ⟨v, hv1, hv2⟩ := hA3 h
        exact ⟨v, by simpa using hv1, hv2⟩, fun h => by
        rw [getD_set hls, if_neg (by omega)] at h
        obtain ⟨v, hv1, hv2⟩ := hA4 h
        exact ⟨v, by simpa using hv1, hv2⟩, fun h => ⟨v, by simp [hs2], hp_⟩⟩
  · intro listed a w hall ⟨hS, hb, hA1, hA3, hA4, hA5⟩
    obtain ⟨v1, hv1, hi1⟩ := hA1 (hall 1 (by decide))
    obtain ⟨v3, hv3, hi3⟩ := hA3 (hall 3 (by decide))
    obtain ⟨v4, hv4, hi4⟩ := hA4 (hall 4 (by decide))
    obtain ⟨v5, hv5, hi5⟩ := hA5 (hall 5 (by decide))
    have hf := hS.frame [(49, .agg #[.slice a1 n1 c1, .int .i64 gap, .int .i64 rad, .slice a2 n2 c2, .slice a3 n3 c3]), (50, v1), (51, .agg #[.slice a1 n1 c1, .int .i64 gap, .int .i64 rad, .slice a2 n2 c2, .slice a4 n4 c4]), (52, v3), (10, v4), (11, v5)] rfl (of_decide_eq_true (by kernel_rfl)) (by
      simp only [List.map_cons, List.map_nil, List.all_cons, List.all_nil, hsz0]; rfl) (by
      intro p hp
      simp only [List.mem_cons, List.not_mem_nil, or_false] at hp
      rcases hp with rfl | rfl | rfl | rfl | rfl | rfl
      · exact hS.val 0 49 _ (hall 0 (by decide)) rfl rfl
      · exact hv1
      · exact hS.val 2 51 _ (hall 2 (by decide)) rfl rfl
      · exact hv3
      · exact hv4
      · exact hv5)
    rw [hf]
    exact hQ w v1 v3 v4 v5 hb hi4 hi5
end Go.Proofs.Ytbmmjbklfheghaa.Kll
