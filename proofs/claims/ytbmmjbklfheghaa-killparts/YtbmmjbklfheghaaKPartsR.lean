/- KillParts' drawn statements, by an invariant. -/
import Derived.Test.YtbmmjbklfheghaaKTold
import Derived.Test.YtbmmjbklfheghaaCGuard
import Derived.Test.YtbmmjbklfheghaaKPartsP
namespace Go.Proofs.Ytbmmjbklfheghaa.Kll
set_option linter.unusedVariables false
set_option maxRecDepth 100000
open Go.RowKit Go.Shelf
open Go.Proofs.Ytbmmjbklfheghaa.Ven (Seat Pole Ven SeatAt Box mixed Slots wp_region_inv getD_set start_false putAll Slots.start slot_of Sl intC row_slice eval_of)
open Go.Proofs.Ytbmmjbklfheghaa.Com (hid' MarksAt MarksV Ints wanted_guard unwanted_guard)

/-- An operation whose guard was not asked. -/
theorem unwanted_undef {ops : Array Oper} {tmps : Array Value} {o : Oper} {j d : Nat} {b : Bool} (hg : o.guard = some (j, b)) (hd : (ops[j]?).bind (·.dst) = some d) (hv : tmps[d]? = some undef) : ¬ Region.wanted o (yielded ops tmps) = true := by
  have hy : yielded ops tmps j = none := by
    unfold yielded
    have e : (ops[j]?.bind fun x => x.dst) = some d := hd
    simp only [e, Option.bind_some, hv]
    rfl
  unfold Region.wanted
  rw [hg]
  show ¬ (yielded ops tmps j == some b) = true
  rw [hy]; cases b <;> decide
set_option maxHeartbeats 16000000 in
theorem part_region {Q : Exit → Act → World → Prop} (a0 : Act) (W : World) (hsz0 : a0.tmps.size = 144) (w0 : World) (V : Ven) (vb mb mo i i1 i2 mn mc q0 q1 q2 : Nat) (az ak ap : Option Addr) (cs ck cp : Nat) (x0 x1 x2 : Int) (ps : List Pole) (hps : ps.length ≤ 500)
    (hi1 : IntKind.i64.wrap ((i : Int) + 1) = (i1 : Int)) (hi2 : IntKind.i64.wrap ((i : Int) + 2) = (i2 : Int)) (hz0 : (i : Int) < (mn : Int)) (hz1 : (i1 : Int) < (mn : Int)) (hz2 : (i2 : Int) < (mn : Int))
    (hq0 : (q0 : Int) < 200) (hq1 : (q1 : Int) < 60) (hq2 : (q2 : Int) < 40) (eq0 : (IntKind.u64.wrap x0).tmod 200 = q0) (eq1 : (IntKind.u64.wrap x1).tmod 60 = q1) (eq2 : (IntKind.u64.wrap x2).tmod 40 = q2)
    (hml : mb < w0.heap.size) (hc0 : w0.cell? ⟨mb, mo + i, none⟩ = some (.int .i64 x0)) (hc1 : w0.cell? ⟨mb, mo + i1, none⟩ = some (.int .i64 x1)) (hc2 : w0.cell? ⟨mb, mo + i2, none⟩ = some (.int .i64 x2))
    (hr : PRest w0 vb V az cs ak ck (.slice ap ps.length cp) W) (hp : Poles w0.heap.size W (.slice ap ps.length cp) ps)
    (h5_ : a0.tmps[5]? = some (.pointer (some ⟨vb, 0, none⟩))) (h6_ : a0.tmps[6]? = some (.int .i64 (i : Int))) (h1_ : a0.tmps[1]? = some (.slice (some ⟨mb, mo, none⟩) mn mc))
    (hQ : ∀ w1 v53 v54, PRest w0 vb V az cs ak ck (.slice ap ps.length cp) w1 → Poles w0.heap.size w1 v54 (ps ++ [⟨q0, q1, 1 + (q2 : Int)⟩]) → Q .normal { tmps := putAll a0.tmps [(26, .pointer (some ⟨vb, 4, none⟩)), (27, .slice ap ps.length cp), (28, .slice (some ⟨mb, mo, none⟩) mn mc), (29, .int .i64 (i : Int)), (30, .pointer (some ⟨mb, mo + i, none⟩)), (31, .int .i64 x0), (32, .int .u64 (IntKind.u64.wrap x0)), (33, .int .u64 (q0 : Int)), (34, .int .i64 (q0 : Int)), (35, .slice (some ⟨mb, mo, none⟩) mn mc), (36, .int .i64 (i : Int)), (37, .int .i64 (i1 : Int)), (38, .pointer (some ⟨mb, mo + i1, none⟩)), (39, .int .i64 x1), (40, .int .u64 (IntKind.u64.wrap x1)), (41, .int .u64 (q1 : Int)), (42, .int .i64 (q1 : Int)), (43, .slice (some ⟨mb, mo, none⟩) mn mc), (44, .int .i64 (i : Int)), (45, .int .i64 (i2 : Int)), (46, .pointer (some ⟨mb, mo + i2, none⟩)), (47, .int .i64 x2), (48, .int .u64 (IntKind.u64.wrap x2)), (49, .int .u64 (q2 : Int)), (50, .int .i64 (q2 : Int)), (51, .int .i64 (1 + (q2 : Int))), (52, .agg #[.int .i64 (q0 : Int), .int .i64 (q1 : Int), .int .i64 (1 + (q2 : Int))]), (53, v53), (54, v54), (55, .pointer (some ⟨vb, 4, none⟩))], defers := a0.defers } (w1.setCell ⟨vb, 4, none⟩ v54)) :
    (Code.region 5 #[{ dst := some 26, op := Op.fieldAddr 26 (Operand.tmp 5) 4, type := 0, pos := "more.go:14", after := #[], guard := none }, { dst := some 27, op := Op.load 24 (Operand.tmp 26), type := 24, pos := "more.go:14", after := #[{ on := 0, ground := Ground.data }], guard := none }, { dst := some 28, op := Op.move (Operand.tmp 1), type := 23, pos := "more.go:14", after := #[], guard := none }, { dst := some 29, op := Op.move (Operand.tmp 6), type := 3, pos := "more.go:14", after := #[], guard := none }, { dst := some 30, op := Op.indexAddr 23 (Operand.tmp 28) (Operand.tmp 29), type := 0, pos := "more.go:14", after := #[{ on := 2, ground := Ground.data }, { on := 3, ground := Ground.data }], guard := none }, { dst := some 31, op := Op.load 3 (Operand.tmp 30), type := 3, pos := "more.go:14", after := #[{ on := 4, ground := Ground.data }], guard := none }, { dst := some 32, op := Op.convert 3 35 (Operand.tmp 31), type := 35, pos := "more.go:14", after := #[{ on := 5, ground := Ground.data }], guard := none }, { dst := some 33, op := Op.binOp BinOp.rem 35 (Operand.tmp 32) (Operand.const (Value.int IntKind.u64 200)) 35, type := 35, pos := "more.go:14", after := #[{ on := 6, ground := Ground.data }], guard := none }, { dst := some 34, op := Op.convert 35 3 (Operand.tmp 33), type := 3, pos := "more.go:14", after := #[{ on := 7, ground := Ground.data }], guard := none }, { dst := some 35, op := Op.move (Operand.tmp 1), type := 23, pos := "more.go:14", after := #[], guard := none }, { dst := some 36, op := Op.move (Operand.tmp 6), type := 3, pos := "more.go:14", after := #[], guard := none }, { dst := some 37, op := Op.binOp BinOp.add 3 (Operand.tmp 36) (Operand.const (Value.int IntKind.i64 1)) 3, type := 3, pos := "more.go:14", after := #[{ on := 10, ground := Ground.data }], guard := none }, { dst := some 38, op := Op.indexAddr 23 (Operand.tmp 35) (Operand.tmp 37), type := 0, pos := "more.go:14", after := #[{ on := 9, ground := Ground.data }, { on := 11, ground := Ground.data }], guard := none }, { dst := some 39, op := Op.load 3 (Operand.tmp 38), type := 3, pos := "more.go:14", after := #[{ on := 12, ground := Ground.data }], guard := none }, { dst := some 40, op := Op.convert 3 35 (Operand.tmp 39), type := 35, pos := "more.go:14", after := #[{ on := 13, ground := Ground.data }], guard := none }, { dst := some 41, op := Op.binOp BinOp.rem 35 (Operand.tmp 40) (Operand.const (Value.int IntKind.u64 60)) 35, type := 35, pos := "more.go:14", after := #[{ on := 14, ground := Ground.data }], guard := none }, { dst := some 42, op := Op.convert 35 3 (Operand.tmp 41), type := 3, pos := "more.go:14", after := #[{ on := 15, ground := Ground.data }], guard := none }, { dst := some 43, op := Op.move (Operand.tmp 1), type := 23, pos := "more.go:14", after := #[], guard := none }, { dst := some 44, op := Op.move (Operand.tmp 6), type := 3, pos := "more.go:14", after := #[], guard := none }, { dst := some 45, op := Op.binOp BinOp.add 3 (Operand.tmp 44) (Operand.const (Value.int IntKind.i64 2)) 3, type := 3, pos := "more.go:14", after := #[{ on := 18, ground := Ground.data }], guard := none }, { dst := some 46, op := Op.indexAddr 23 (Operand.tmp 43) (Operand.tmp 45), type := 0, pos := "more.go:14", after := #[{ on := 17, ground := Ground.data }, { on := 19, ground := Ground.data }], guard := none }, { dst := some 47, op := Op.load 3 (Operand.tmp 46), type := 3, pos := "more.go:14", after := #[{ on := 20, ground := Ground.data }], guard := none }, { dst := some 48, op := Op.convert 3 35 (Operand.tmp 47), type := 35, pos := "more.go:14", after := #[{ on := 21, ground := Ground.data }], guard := none }, { dst := some 49, op := Op.binOp BinOp.rem 35 (Operand.tmp 48) (Operand.const (Value.int IntKind.u64 40)) 35, type := 35, pos := "more.go:14", after := #[{ on := 22, ground := Ground.data }], guard := none }, { dst := some 50, op := Op.convert 35 3 (Operand.tmp 49), type := 3, pos := "more.go:14", after := #[{ on := 23, ground := Ground.data }], guard := none }, { dst := some 51, op := Op.binOp BinOp.add 3 (Operand.const (Value.int IntKind.i64 1)) (Operand.tmp 50) 3, type := 3, pos := "more.go:14", after := #[{ on := 24, ground := Ground.data }], guard := none }, { dst := some 52, op := Op.build 41 #[(0, Operand.tmp 34), (1, Operand.tmp 42), (2, Operand.tmp 51)], type := 41, pos := "more.go:14", after := #[{ on := 8, ground := Ground.data }, { on := 16, ground := Ground.data }, { on := 25, ground := Ground.data }], guard := none }, { dst := some 53, op := Op.buildSlice 24 1 #[(0, Operand.tmp 52)], type := 24, pos := "more.go:14", after := #[{ on := 26, ground := Ground.data }], guard := none }, { dst := some 54, op := Op.call { callee := Callee.builtin Builtin.append, args := #[Operand.tmp 27, Operand.tmp 53], argTypes := #[24, 24] }, type := 24, pos := "more.go:14", after := #[{ on := 1, ground := Ground.data }, { on := 27, ground := Ground.data }], guard := none }, { dst := some 55, op := Op.fieldAddr 26 (Operand.tmp 5) 4, type := 0, pos := "more.go:14", after := #[{ on := 0, ground := Ground.phase }, { on := 1, ground := Ground.phase }, { on := 2, ground := Ground.phase }, { on := 3, ground := Ground.phase }, { on := 4, ground := Ground.phase }, { on := 5, ground := Ground.phase }, { on := 6, ground := Ground.phase }, { on := 7, ground := Ground.phase }, { on := 8, ground := Ground.phase }, { on := 9, ground := Ground.phase }, { on := 10, ground := Ground.phase }, { on := 11, ground := Ground.phase }, { on := 12, ground := Ground.phase }, { on := 13, ground := Ground.phase }, { on := 14, ground := Ground.phase }, { on := 15, ground := Ground.phase }, { on := 16, ground := Ground.phase }, { on := 17, ground := Ground.phase }, { on := 18, ground := Ground.phase }, { on := 19, ground := Ground.phase }, { on := 20, ground := Ground.phase }, { on := 21, ground := Ground.phase }, { on := 22, ground := Ground.phase }, { on := 23, ground := Ground.phase }, { on := 24, ground := Ground.phase }, { on := 25, ground := Ground.phase }, { on := 26, ground := Ground.phase }, { on := 27, ground := Ground.phase }, { on := 28, ground := Ground.phase }], guard := none }, { dst := none, op := Op.store 24 (Operand.tmp 55) (Operand.tmp 54), type := 0, pos := "more.go:14", after := #[{ on := 29, ground := Ground.data }, { on := 28, ground := Ground.data }, { on := 28, ground := Ground.chain }, { on := 0, ground := Ground.phase }, { on := 1, ground := Ground.phase }, { on := 2, ground := Ground.phase }, { on := 3, ground := Ground.phase }, { on := 4, ground := Ground.phase }, { on := 5, ground := Ground.phase }, { on := 6, ground := Ground.phase }, { on := 7, ground := Ground.phase }, { on := 8, ground := Ground.phase }, { on := 9, ground := Ground.phase }, { on := 10, ground := Ground.phase }, { on := 11, ground := Ground.phase }, { on := 12, ground := Ground.phase }, { on := 13, ground := Ground.phase }, { on := 14, ground := Ground.phase }, { on := 15, ground := Ground.phase }, { on := 16, ground := Ground.phase }, { on := 17, ground := Ground.phase }, { on := 18, ground := Ground.phase }, { on := 19, ground := Ground.phase }, { on := 20, ground := Ground.phase }, { on := 21, ground := Ground.phase }, { on := 22, ground := Ground.phase }, { on := 23, ground := Ground.phase }, { on := 24, ground := Ground.phase }, { on := 25, ground := Ground.phase }, { on := 26, ground := Ground.phase }, { on := 27, ground := Ground.phase }, { on := 28, ground := Ground.phase }], guard := none }] true).wp Try.prog Q a0 W := by
  have hn : ([some 26, some 27, some 28, some 29, some 30, some 31, some 32, some 33, some 34, some 35, some 36, some 37, some 38, some 39, some 40, some 41, some 42, some 43, some 44, some 45, some 46, some 47, some 48, some 49, some 50, some 51, some 52, some 53, some 54, some 55, none] : List (Option Nat)).Pairwise (fun x y => x = none ∨ x ≠ y) := of_decide_eq_true (by kernel_rfl)
  have z0 : IntKind.i64.wrap (q0 : Int) = q0 := by rw [IntKind.wrap_i64]; omega
  have z1 : IntKind.i64.wrap (q1 : Int) = q1 := by rw [IntKind.wrap_i64]; omega
  have z2 : IntKind.i64.wrap (q2 : Int) = q2 := by rw [IntKind.wrap_i64]; omega
  have z4 : IntKind.i64.wrap (1 + (q2 : Int)) = 1 + (q2 : Int) := by rw [IntKind.wrap_i64]; omega
  refine wp_region_inv mixed (fun listed a w => Slots a0 [some 26, some 27, some 28, some 29, some 30, some 31, some 32, some 33, some 34, some 35, some 36, some 37, some 38, some 39, some 40, some 41, some 42, some 43, some 44, some 45, some 46, some 47, some 48, some 49, some 50, some 51, some 52, some 53, some 54, some 55, none] [some (.pointer (some ⟨vb, 4, none⟩)), some (.slice ap ps.length cp), some (.slice (some ⟨mb, mo, none⟩) mn mc), some (.int .i64 (i : Int)), some (.pointer (some ⟨mb, mo + i, none⟩)), some (.int .i64 x0), some (.int .u64 (IntKind.u64.wrap x0)), some (.int .u64 (q0 : Int)), some (.int .i64 (q0 : Int)), some (.slice (some ⟨mb, mo, none⟩) mn mc), some (.int .i64 (i : Int)), some (.int .i64 (i1 : Int)), some (.pointer (some ⟨mb, mo + i1, none⟩)), some (.int .i64 x1), some (.int .u64 (IntKind.u64.wrap x1)), some (.int .u64 (q1 : Int)), some (.int .i64 (q1 : Int)), some (.slice (some ⟨mb, mo, none⟩) mn mc), some (.int .i64 (i : Int)), some (.int .i64 (i2 : Int)), some (.pointer (some ⟨mb, mo + i2, none⟩)), some (.int .i64 x2), some (.int .u64 (IntKind.u64.wrap x2)), some (.int .u64 (q2 : Int)), some (.int .i64 (q2 : Int)), some (.int .i64 (1 + (q2 : Int))), some (.agg #[.int .i64 (q0 : Int), .int .i64 (q1 : Int), .int .i64 (1 + (q2 : Int))]), none, none, some (.pointer (some ⟨vb, 4, none⟩)), none] listed a ∧ ((listed.getD 30 false = false ∧ PRest w0 vb V az cs ak ck (.slice ap ps.length cp) w ∧ PartG w0.heap.size ps ⟨q0, q1, 1 + (q2 : Int)⟩ (.slice ap ps.length cp) listed (a.tmps) w) ∨ (listed.getD 30 false = true ∧ ∃ w1 v, w = w1.setCell ⟨vb, 4, none⟩ v ∧ PRest w0 vb V az cs ak ck (.slice ap ps.length cp) w1 ∧ a.tmps[54]? = some v ∧ Poles w0.heap.size w1 v (ps ++ [⟨q0, q1, 1 + (q2 : Int)⟩])))) (by kernel_rfl) ?_ ?_ ?_
  · exact ⟨Slots.start _ _ _ _, .inl ⟨start_false _ _, hr.next (Below.refl _ W).drew, (fun _ => hp.next (Below.refl _ W).drew), (fun h => by rw [start_false] at h; cases h), (fun h => by rw [start_false] at h; cases h)⟩⟩
  · intro listed a w i' hsl hilt hl hd hcl ⟨hS, hI⟩
    have hsz : Hid (a.tmps.size = 144) := hS.size.trans hsz0
    have hls : i' < listed.size := by rw [hsl]; exact hilt
    have hcase : i' = 0 ∨ i' = 1 ∨ i' = 2 ∨ i' = 3 ∨ i' = 4 ∨ i' = 5 ∨ i' = 6 ∨ i' = 7 ∨ i' = 8 ∨ i' = 9 ∨ i' = 10 ∨ i' = 11 ∨ i' = 12 ∨ i' = 13 ∨ i' = 14 ∨ i' = 15 ∨ i' = 16 ∨ i' = 17 ∨ i' = 18 ∨ i' = 19 ∨ i' = 20 ∨ i' = 21 ∨ i' = 22 ∨ i' = 23 ∨ i' = 24 ∨ i' = 25 ∨ i' = 26 ∨ i' = 27 ∨ i' = 28 ∨ i' = 29 ∨ i' = 30 := by
      have : i' < 31 := hilt
      omega
    rcases hcase with rfl | rfl | rfl | rfl | rfl | rfl | rfl | rfl | rfl | rfl | rfl | rfl | rfl | rfl | rfl | rfl | rfl | rfl | rfl | rfl | rfl | rfl | rfl | rfl | rfl | rfl | rfl | rfl | rfl | rfl | rfl
    ·
      refine wpOp_step (o := { dst := some 26, op := Op.fieldAddr 26 (Operand.tmp 5) 4, type := 0, pos := "more.go:14", after := #[], guard := none }) rfl ?_
      intro K hK
      have n30 : listed.getD 30 false = false := by
        cases h : listed.getD 30 false with
        | false => rfl
        | true => rw [hcl 30 0 h (of_decide_eq_true (by kernel_rfl))] at hl; cases hl
      obtain ⟨hb, hG⟩ : PRest w0 vb V az cs ak ck (.slice ap ps.length cp) w ∧ PartG w0.heap.size ps ⟨q0, q1, 1 + (q2 : Int)⟩ (.slice ap ps.length cp) listed (a.tmps) w := by
        rcases hI with ⟨_, hb, hG⟩ | ⟨h, _⟩
        · exact ⟨hb, hG⟩
        · rw [n30] at h; cases h
      have q5_ : a.tmps[5]? = some (.pointer (some ⟨vb, 0, none⟩)) := (hS.keep 5 (of_decide_eq_true (by kernel_rfl))).trans h5_
      go_simp
      exact hK _ _ ⟨hS.put hn 0 26 _ rfl (by rw [hsz0]; omega) (fun u h => by injection h with h; injection h with h; exact h.symm), .inl ⟨by rw [getD_set hls, if_neg (by omega)]; exact n30, hb, hG.same _ hls (by omega) (by omega)⟩⟩
    ·
      refine wpOp_step (o := { dst := some 27, op := Op.load 24 (Operand.tmp 26), type := 24, pos := "more.go:14", after := #[{ on := 0, ground := Ground.data }], guard := none }) rfl ?_
      intro K hK
      have n30 : listed.getD 30 false = false := by
        cases h : listed.getD 30 false with
        | false => rfl
        | true => rw [hcl 30 1 h (of_decide_eq_true (by kernel_rfl))] at hl; cases hl
      obtain ⟨hb, hG⟩ : PRest w0 vb V az cs ak ck (.slice ap ps.length cp) w ∧ PartG w0.heap.size ps ⟨q0, q1, 1 + (q2 : Int)⟩ (.slice ap ps.length cp) listed (a.tmps) w := by
        rcases hI with ⟨_, hb, hG⟩ | ⟨h, _⟩
        · exact ⟨hb, hG⟩
        · rw [n30] at h; cases h
      have q26_ : a.tmps[26]? = some (.pointer (some ⟨vb, 4, none⟩)) := hS.val 0 26 _ (hd 0 (of_decide_eq_true (by kernel_rfl))) rfl rfl
      have m0 := hb.box.cell 4 _ rfl
      go_simp
      exact hK _ _ ⟨hS.put hn 1 27 _ rfl (by rw [hsz0]; omega) (fun u h => by injection h with h; injection h with h; exact h.symm), .inl ⟨by rw [getD_set hls, if_neg (by omega)]; exact n30, hb, hG.same _ hls (by omega) (by omega)⟩⟩
    ·
      refine wpOp_step (o := { dst := some 28, op := Op.move (Operand.tmp 1), type := 23, pos := "more.go:14", after := #[], guard := none }) rfl ?_
      intro K hK
      have n30 : listed.getD 30 false = false := by
        cases h : listed.getD 30 false with
        | false => rfl
        | true => rw [hcl 30 2 h (of_decide_eq_true (by kernel_rfl))] at hl; cases hl
      obtain ⟨hb, hG⟩ : PRest w0 vb V az cs ak ck (.slice ap ps.length cp) w ∧ PartG w0.heap.size ps ⟨q0, q1, 1 + (q2 : Int)⟩ (.slice ap ps.length cp) listed (a.tmps) w := by
        rcases hI with ⟨_, hb, hG⟩ | ⟨h, _⟩
        · exact ⟨hb, hG⟩
        · rw [n30] at h; cases h
      have q1_ : a.tmps[1]? = some (.slice (some ⟨mb, mo, none⟩) mn mc) := (hS.keep 1 (of_decide_eq_true (by kernel_rfl))).trans h1_
      go_simp
      exact hK _ _ ⟨hS.put hn 2 28 _ rfl (by rw [hsz0]; omega) (fun u h => by injection h with h; injection h with h; exact h.symm), .inl ⟨by rw [getD_set hls, if_neg (by omega)]; exact n30, hb, hG.same _ hls (by omega) (by omega)⟩⟩
    ·
      refine wpOp_step (o := { dst := some 29, op := Op.move (Operand.tmp 6), type := 3, pos := "more.go:14", after := #[], guard := none }) rfl ?_
      intro K hK
      have n30 : listed.getD 30 false = false := by
        cases h : listed.getD 30 false with
        | false => rfl
        | true => rw [hcl 30 3 h (of_decide_eq_true (by kernel_rfl))] at hl; cases hl
      obtain ⟨hb, hG⟩ : PRest w0 vb V az cs ak ck (.slice ap ps.length cp) w ∧ PartG w0.heap.size ps ⟨q0, q1, 1 + (q2 : Int)⟩ (.slice ap ps.length cp) listed (a.tmps) w := by
        rcases hI with ⟨_, hb, hG⟩ | ⟨h, _⟩
        · exact ⟨hb, hG⟩
        · rw [n30] at h; cases h
      have q6_ : a.tmps[6]? = some (.int .i64 (i : Int)) := (hS.keep 6 (of_decide_eq_true (by kernel_rfl))).trans h6_
      go_simp
      exact hK _ _ ⟨hS.put hn 3 29 _ rfl (by rw [hsz0]; omega) (fun u h => by injection h with h; injection h with h; exact h.symm), .inl ⟨by rw [getD_set hls, if_neg (by omega)]; exact n30, hb, hG.same _ hls (by omega) (by omega)⟩⟩
    ·
      refine wpOp_step (o := { dst := some 30, op := Op.indexAddr 23 (Operand.tmp 28) (Operand.tmp 29), type := 0, pos := "more.go:14", after := #[{ on := 2, ground := Ground.data }, { on := 3, ground := Ground.data }], guard := none }) rfl ?_
      intro K hK
      have n30 : listed.getD 30 false = false := by
        cases h : listed.getD 30 false with
        | false => rfl
        | true => rw [hcl 30 4 h (of_decide_eq_true (by kernel_rfl))] at hl; cases hl
      obtain ⟨hb, hG⟩ : PRest w0 vb V az cs ak ck (.slice ap ps.length cp) w ∧ PartG w0.heap.size ps ⟨q0, q1, 1 + (q2 : Int)⟩ (.slice ap ps.length cp) listed (a.tmps) w := by
        rcases hI with ⟨_, hb, hG⟩ | ⟨h, _⟩
        · exact ⟨hb, hG⟩
        · rw [n30] at h; cases h
      have q28_ : a.tmps[28]? = some (.slice (some ⟨mb, mo, none⟩) mn mc) := hS.val 2 28 _ (hd 2 (of_decide_eq_true (by kernel_rfl))) rfl rfl
      have q29_ : a.tmps[29]? = some (.int .i64 (i : Int)) := hS.val 3 29 _ (hd 3 (of_decide_eq_true (by kernel_rfl))) rfl rfl
      go_simp
      exact hK _ _ ⟨hS.put hn 4 30 _ rfl (by rw [hsz0]; omega) (fun u h => by injection h with h; injection h with h; exact h.symm), .inl ⟨by rw [getD_set hls, if_neg (by omega)]; exact n30, hb, hG.same _ hls (by omega) (by omega)⟩⟩
    ·
      refine wpOp_step (o := { dst := some 31, op := Op.load 3 (Operand.tmp 30), type := 3, pos := "more.go:14", after := #[{ on := 4, ground := Ground.data }], guard := none }) rfl ?_
      intro K hK
      have n30 : listed.getD 30 false = false := by
        cases h : listed.getD 30 false with
        | false => rfl
        | true => rw [hcl 30 5 h (of_decide_eq_true (by kernel_rfl))] at hl; cases hl
      obtain ⟨hb, hG⟩ : PRest w0 vb V az cs ak ck (.slice ap ps.length cp) w ∧ PartG w0.heap.size ps ⟨q0, q1, 1 + (q2 : Int)⟩ (.slice ap ps.length cp) listed (a.tmps) w := by
        rcases hI with ⟨_, hb, hG⟩ | ⟨h, _⟩
        · exact ⟨hb, hG⟩
        · rw [n30] at h; cases h
      have q30_ : a.tmps[30]? = some (.pointer (some ⟨mb, mo + i, none⟩)) := hS.val 4 30 _ (hd 4 (of_decide_eq_true (by kernel_rfl))) rfl rfl
      have m0 := (hb.below.cell (p := ⟨mb, mo + i, none⟩) hml).trans hc0
      go_simp
      exact hK _ _ ⟨hS.put hn 5 31 _ rfl (by rw [hsz0]; omega) (fun u h => by injection h with h; injection h with h; exact h.symm), .inl ⟨by rw [getD_set hls, if_neg (by omega)]; exact n30, hb, hG.same _ hls (by omega) (by omega)⟩⟩
    ·
      refine wpOp_step (o := { dst := some 32, op := Op.convert 3 35 (Operand.tmp 31), type := 35, pos := "more.go:14", after := #[{ on := 5, ground := Ground.data }], guard := none }) rfl ?_
      intro K hK
      have n30 : listed.getD 30 false = false := by
        cases h : listed.getD 30 false with
        | false => rfl
        | true => rw [hcl 30 6 h (of_decide_eq_true (by kernel_rfl))] at hl; cases hl
      obtain ⟨hb, hG⟩ : PRest w0 vb V az cs ak ck (.slice ap ps.length cp) w ∧ PartG w0.heap.size ps ⟨q0, q1, 1 + (q2 : Int)⟩ (.slice ap ps.length cp) listed (a.tmps) w := by
        rcases hI with ⟨_, hb, hG⟩ | ⟨h, _⟩
        · exact ⟨hb, hG⟩
        · rw [n30] at h; cases h
      have q31_ : a.tmps[31]? = some (.int .i64 x0) := hS.val 5 31 _ (hd 5 (of_decide_eq_true (by kernel_rfl))) rfl rfl
      go_simp
      exact hK _ _ ⟨hS.put hn 6 32 _ rfl (by rw [hsz0]; omega) (fun u h => by injection h with h; injection h with h; exact h.symm), .inl ⟨by rw [getD_set hls, if_neg (by omega)]; exact n30, hb, hG.same _ hls (by omega) (by omega)⟩⟩
    ·
      refine wpOp_step (o := { dst := some 33, op := Op.binOp BinOp.rem 35 (Operand.tmp 32) (Operand.const (Value.int IntKind.u64 200)) 35, type := 35, pos := "more.go:14", after := #[{ on := 6, ground := Ground.data }], guard := none }) rfl ?_
      intro K hK
      have n30 : listed.getD 30 false = false := by
        cases h : listed.getD 30 false with
        | false => rfl
        | true => rw [hcl 30 7 h (of_decide_eq_true (by kernel_rfl))] at hl; cases hl
      obtain ⟨hb, hG⟩ : PRest w0 vb V az cs ak ck (.slice ap ps.length cp) w ∧ PartG w0.heap.size ps ⟨q0, q1, 1 + (q2 : Int)⟩ (.slice ap ps.length cp) listed (a.tmps) w := by
        rcases hI with ⟨_, hb, hG⟩ | ⟨h, _⟩
        · exact ⟨hb, hG⟩
        · rw [n30] at h; cases h
      have q32_ : a.tmps[32]? = some (.int .u64 (IntKind.u64.wrap x0)) := hS.val 6 32 _ (hd 6 (of_decide_eq_true (by kernel_rfl))) rfl rfl
      go_simp
      exact hK _ _ ⟨hS.put hn 7 33 _ rfl (by rw [hsz0]; omega) (fun u h => by injection h with h; injection h with h; exact h.symm), .inl ⟨by rw [getD_set hls, if_neg (by omega)]; exact n30, hb, hG.same _ hls (by omega) (by omega)⟩⟩
    ·
      refine wpOp_step (o := { dst := some 34, op := Op.convert 35 3 (Operand.tmp 33), type := 3, pos := "more.go:14", after := #[{ on := 7, ground := Ground.data }], guard := none }) rfl ?_
      intro K hK
      have n30 : listed.getD 30 false = false := by
        cases h : listed.getD 30 false with
        | false => rfl
        | true => rw [hcl 30 8 h (of_decide_eq_true (by kernel_rfl))] at hl; cases hl
      obtain ⟨hb, hG⟩ : PRest w0 vb V az cs ak ck (.slice ap ps.length cp) w ∧ PartG w0.heap.size ps ⟨q0, q1, 1 + (q2 : Int)⟩ (.slice ap ps.length cp) listed (a.tmps) w := by
        rcases hI with ⟨_, hb, hG⟩ | ⟨h, _⟩
        · exact ⟨hb, hG⟩
        · rw [n30] at h; cases h
      have q33_ : a.tmps[33]? = some (.int .u64 (q0 : Int)) := hS.val 7 33 _ (hd 7 (of_decide_eq_true (by kernel_rfl))) rfl rfl
      go_simp
      exact hK _ _ ⟨hS.put hn 8 34 _ rfl (by rw [hsz0]; omega) (fun u h => by injection h with h; injection h with h; exact h.symm), .inl ⟨by rw [getD_set hls, if_neg (by omega)]; exact n30, hb, hG.same _ hls (by omega) (by omega)⟩⟩
    ·
      refine wpOp_step (o := { dst := some 35, op := Op.move (Operand.tmp 1), type := 23, pos := "more.go:14", after := #[], guard := none }) rfl ?_
      intro K hK
      have n30 : listed.getD 30 false = false := by
        cases h : listed.getD 30 false with
        | false => rfl
        | true => rw [hcl 30 9 h (of_decide_eq_true (by kernel_rfl))] at hl; cases hl
      obtain ⟨hb, hG⟩ : PRest w0 vb V az cs ak ck (.slice ap ps.length cp) w ∧ PartG w0.heap.size ps ⟨q0, q1, 1 + (q2 : Int)⟩ (.slice ap ps.length cp) listed (a.tmps) w := by
        rcases hI with ⟨_, hb, hG⟩ | ⟨h, _⟩
        · exact ⟨hb, hG⟩
        · rw [n30] at h; cases h
      have q1_ : a.tmps[1]? = some (.slice (some ⟨mb, mo, none⟩) mn mc) := (hS.keep 1 (of_decide_eq_true (by kernel_rfl))).trans h1_
      go_simp
      exact hK _ _ ⟨hS.put hn 9 35 _ rfl (by rw [hsz0]; omega) (fun u h => by injection h with h; injection h with h; exact h.symm), .inl ⟨by rw [getD_set hls, if_neg (by omega)]; exact n30, hb, hG.same _ hls (by omega) (by omega)⟩⟩
    ·
      refine wpOp_step (o := { dst := some 36, op := Op.move (Operand.tmp 6), type := 3, pos := "more.go:14", after := #[], guard := none }) rfl ?_
      intro K hK
      have n30 : listed.getD 30 false = false := by
        cases h : listed.getD 30 false with
        | false => rfl
        | true => rw [hcl 30 10 h (of_decide_eq_true (by kernel_rfl))] at hl; cases hl
      obtain ⟨hb, hG⟩ : PRest w0 vb V az cs ak ck (.slice ap ps.length cp) w ∧ PartG w0.heap.size ps ⟨q0, q1, 1 + (q2 : Int)⟩ (.slice ap ps.length cp) listed (a.tmps) w := by
        rcases hI with ⟨_, hb, hG⟩ | ⟨h, _⟩
        · exact ⟨hb, hG⟩
        · rw [n30] at h; cases h
      have q6_ : a.tmps[6]? = some (.int .i64 (i : Int)) := (hS.keep 6 (of_decide_eq_true (by kernel_rfl))).trans h6_
      go_simp
      exact hK _ _ ⟨hS.put hn 10 36 _ rfl (by rw [hsz0]; omega) (fun u h => by injection h with h; injection h with h; exact h.symm), .inl ⟨by rw [getD_set hls, if_neg (by omega)]; exact n30, hb, hG.same _ hls (by omega) (by omega)⟩⟩
    ·
      refine wpOp_step (o := { dst := some 37, op := Op.binOp BinOp.add 3 (Operand.tmp 36) (Operand.const (Value.int IntKind.i64 1)) 3, type := 3, pos := "more.go:14", after := #[{ on := 10, ground := Ground.data }], guard := none }) rfl ?_
      intro K hK
      have n30 : listed.getD 30 false = false := by
        cases h : listed.getD 30 false with
        | false => rfl
        | true => rw [hcl 30 11 h (of_decide_eq_true (by kernel_rfl))] at hl; cases hl
      obtain ⟨hb, hG⟩ : PRest w0 vb V az cs ak ck (.slice ap ps.length cp) w ∧ PartG w0.heap.size ps ⟨q0, q1, 1 + (q2 : Int)⟩ (.slice ap ps.length cp) listed (a.tmps) w := by
        rcases hI with ⟨_, hb, hG⟩ | ⟨h, _⟩
        · exact ⟨hb, hG⟩
        · rw [n30] at h; cases h
      have q36_ : a.tmps[36]? = some (.int .i64 (i : Int)) := hS.val 10 36 _ (hd 10 (of_decide_eq_true (by kernel_rfl))) rfl rfl
      go_simp
      exact hK _ _ ⟨hS.put hn 11 37 _ rfl (by rw [hsz0]; omega) (fun u h => by injection h with h; injection h with h; exact h.symm), .inl ⟨by rw [getD_set hls, if_neg (by omega)]; exact n30, hb, hG.same _ hls (by omega) (by omega)⟩⟩
    ·
      refine wpOp_step (o := { dst := some 38, op := Op.indexAddr 23 (Operand.tmp 35) (Operand.tmp 37), type := 0, pos := "more.go:14", after := #[{ on := 9, ground := Ground.data }, { on := 11, ground := Ground.data }], guard := none }) rfl ?_
      intro K hK
      have n30 : listed.getD 30 false = false := by
        cases h : listed.getD 30 false with
        | false => rfl
        | true => rw [hcl 30 12 h (of_decide_eq_true (by kernel_rfl))] at hl; cases hl
      obtain ⟨hb, hG⟩ : PRest w0 vb V az cs ak ck (.slice ap ps.length cp) w ∧ PartG w0.heap.size ps ⟨q0, q1, 1 + (q2 : Int)⟩ (.slice ap ps.length cp) listed (a.tmps) w := by
        rcases hI with ⟨_, hb, hG⟩ | ⟨h, _⟩
        · exact ⟨hb, hG⟩
        · rw [n30] at h; cases h
      have q35_ : a.tmps[35]? = some (.slice (some ⟨mb, mo, none⟩) mn mc) := hS.val 9 35 _ (hd 9 (of_decide_eq_true (by kernel_rfl))) rfl rfl
      have q37_ : a.tmps[37]? = some (.int .i64 (i1 : Int)) := hS.val 11 37 _ (hd 11 (of_decide_eq_true (by kernel_rfl))) rfl rfl
      go_simp
      exact hK _ _ ⟨hS.put hn 12 38 _ rfl (by rw [hsz0]; omega) (fun u h => by injection h with h; injection h with h; exact h.symm), .inl ⟨by rw [getD_set hls, if_neg (by omega)]; exact n30, hb, hG.same _ hls (by omega) (by omega)⟩⟩
    ·
      refine wpOp_step (o := { dst := some 39, op := Op.load 3 (Operand.tmp 38), type := 3, pos := "more.go:14", after := #[{ on := 12, ground := Ground.data }], guard := none }) rfl ?_
      intro K hK
      have n30 : listed.getD 30 false = false := by
        cases h : listed.getD 30 false with
        | false => rfl
        | true => rw [hcl 30 13 h (of_decide_eq_true (by kernel_rfl))] at hl; cases hl
      obtain ⟨hb, hG⟩ : PRest w0 vb V az cs ak ck (.slice ap ps.length cp) w ∧ PartG w0.heap.size ps ⟨q0, q1, 1 + (q2 : Int)⟩ (.slice ap ps.length cp) listed (a.tmps) w := by
        rcases hI with ⟨_, hb, hG⟩ | ⟨h, _⟩
        · exact ⟨hb, hG⟩
        · rw [n30] at h; cases h
      have q38_ : a.tmps[38]? = some (.pointer (some ⟨mb, mo + i1, none⟩)) := hS.val 12 38 _ (hd 12 (of_decide_eq_true (by kernel_rfl))) rfl rfl
      have m0 := (hb.below.cell (p := ⟨mb, mo + i1, none⟩) hml).trans hc1
      go_simp
      exact hK _ _ ⟨hS.put hn 13 39 _ rfl (by rw [hsz0]; omega) (fun u h => by injection h with h; injection h with h; exact h.symm), .inl ⟨by rw [getD_set hls, if_neg (by omega)]; exact n30, hb, hG.same _ hls (by omega) (by omega)⟩⟩
    ·
      refine wpOp_step (o := { dst := some 40, op := Op.convert 3 35 (Operand.tmp 39), type := 35, pos := "more.go:14", after := #[{ on := 13, ground := Ground.data }], guard := none }) rfl ?_
      intro K hK
      have n30 : listed.getD 30 false = false := by
        cases h : listed.getD 30 false with
        | false => rfl
        | true => rw [hcl 30 14 h (of_decide_eq_true (by kernel_rfl))] at hl; cases hl
      obtain ⟨hb, hG⟩ : PRest w0 vb V az cs ak ck (.slice ap ps.length cp) w ∧ PartG w0.heap.size ps ⟨q0, q1, 1 + (q2 : Int)⟩ (.slice ap ps.length cp) listed (a.tmps) w := by
        rcases hI with ⟨_, hb, hG⟩ | ⟨h, _⟩
        · exact ⟨hb, hG⟩
        · rw [n30] at h; cases h
      have q39_ : a.tmps[39]? = some (.int .i64 x1) := hS.val 13 39 _ (hd 13 (of_decide_eq_true (by kernel_rfl))) rfl rfl
      go_simp
      exact hK _ _ ⟨hS.put hn 14 40 _ rfl (by rw [hsz0]; omega) (fun u h => by injection h with h; injection h with h; exact h.symm), .inl ⟨by rw [getD_set hls, if_neg (by omega)]; exact n30, hb, hG.same _ hls (by omega) (by omega)⟩⟩
    ·
      refine wpOp_step (o := { dst := some 41, op := Op.binOp BinOp.rem 35 (Operand.tmp 40) (Operand.const (Value.int IntKind.u64 60)) 35, type := 35, pos := "more.go:14", after := #[{ on := 14, ground := Ground.data }], guard := none }) rfl ?_
      intro K hK
      have n30 : listed.getD 30 false = false := by
        cases h : listed.getD 30 false with
        | false => rfl
        | true => rw [hcl 30 15 h (of_decide_eq_true (by kernel_rfl))] at hl; cases hl
      obtain ⟨hb, hG⟩ : PRest w0 vb V az cs ak ck (.slice ap ps.length cp) w ∧ PartG w0.heap.size ps ⟨q0, q1, 1 + (q2 : Int)⟩ (.slice ap ps.length cp) listed (a.tmps) w := by
        rcases hI with ⟨_, hb, hG⟩ | ⟨h, _⟩
        · exact ⟨hb, hG⟩
        · rw [n30] at h; cases h
      have q40_ : a.tmps[40]? = some (.int .u64 (IntKind.u64.wrap x1)) := hS.val 14 40 _ (hd 14 (of_decide_eq_true (by kernel_rfl))) rfl rfl
      go_simp
      exact hK _ _ ⟨hS.put hn 15 41 _ rfl (by rw [hsz0]; omega) (fun u h => by injection h with h; injection h with h; exact h.symm), .inl ⟨by rw [getD_set hls, if_neg (by omega)]; exact n30, hb, hG.same _ hls (by omega) (by omega)⟩⟩
    ·
      refine wpOp_step (o := { dst := some 42, op := Op.convert 35 3 (Operand.tmp 41), type := 3, pos := "more.go:14", after := #[{ on := 15, ground := Ground.data }], guard := none }) rfl ?_
      intro K hK
      have n30 : listed.getD 30 false = false := by
        cases h : listed.getD 30 false with
        | false => rfl
        | true => rw [hcl 30 16 h (of_decide_eq_true (by kernel_rfl))] at hl; cases hl
      obtain ⟨hb, hG⟩ : PRest w0 vb V az cs ak ck (.slice ap ps.length cp) w ∧ PartG w0.heap.size ps ⟨q0, q1, 1 + (q2 : Int)⟩ (.slice ap ps.length cp) listed (a.tmps) w := by
        rcases hI with ⟨_, hb, hG⟩ | ⟨h, _⟩
        · exact ⟨hb, hG⟩
        · rw [n30] at h; cases h
      have q41_ : a.tmps[41]? = some (.int .u64 (q1 : Int)) := hS.val 15 41 _ (hd 15 (of_decide_eq_true (by kernel_rfl))) rfl rfl
      go_simp
      exact hK _ _ ⟨hS.put hn 16 42 _ rfl (by rw [hsz0]; omega) (fun u h => by injection h with h; injection h with h; exact h.symm), .inl ⟨by rw [getD_set hls, if_neg (by omega)]; exact n30, hb, hG.same _ hls (by omega) (by omega)⟩⟩
    ·
      refine wpOp_step (o := { dst := some 43, op := Op.move (Operand.tmp 1), type := 23, pos := "more.go:14", after := #[], guard := none }) rfl ?_
      intro K hK
      have n30 : listed.getD 30 false = false := by
        cases h : listed.getD 30 false with
        | false => rfl
        | true => rw [hcl 30 17 h (of_decide_eq_true (by kernel_rfl))] at hl; cases hl
      obtain ⟨hb, hG⟩ : PRest w0 vb V az cs ak ck (.slice ap ps.length cp) w ∧ PartG w0.heap.size ps ⟨q0, q1, 1 + (q2 : Int)⟩ (.slice ap ps.length cp) listed (a.tmps) w := by
        rcases hI with ⟨_, hb, hG⟩ | ⟨h, _⟩
        · exact ⟨hb, hG⟩
        · rw [n30] at h; cases h
      have q1_ : a.tmps[1]? = some (.slice (some ⟨mb, mo, none⟩) mn mc) := (hS.keep 1 (of_decide_eq_true (by kernel_rfl))).trans h1_
      go_simp
      exact hK _ _ ⟨hS.put hn 17 43 _ rfl (by rw [hsz0]; omega) (fun u h => by injection h with h; injection h with h; exact h.symm), .inl ⟨by rw [getD_set hls, if_neg (by omega)]; exact n30, hb, hG.same _ hls (by omega) (by omega)⟩⟩
    ·
      refine wpOp_step (o := { dst := some 44, op := Op.move (Operand.tmp 6), type := 3, pos := "more.go:14", after := #[], guard := none }) rfl ?_
      intro K hK
      have n30 : listed.getD 30 false = false := by
        cases h : listed.getD 30 false with
        | false => rfl
        | true => rw [hcl 30 18 h (of_decide_eq_true (by kernel_rfl))] at hl; cases hl
      obtain ⟨hb, hG⟩ : PRest w0 vb V az cs ak ck (.slice ap ps.length cp) w ∧ PartG w0.heap.size ps ⟨q0, q1, 1 + (q2 : Int)⟩ (.slice ap ps.length cp) listed (a.tmps) w := by
        rcases hI with ⟨_, hb, hG⟩ | ⟨h, _⟩
        · exact ⟨hb, hG⟩
        · rw [n30] at h; cases h
      have q6_ : a.tmps[6]? = some (.int .i64 (i : Int)) := (hS.keep 6 (of_decide_eq_true (by kernel_rfl))).trans h6_
      go_simp
      exact hK _ _ ⟨hS.put hn 18 44 _ rfl (by rw [hsz0]; omega) (fun u h => by injection h with h; injection h with h; exact h.symm), .inl ⟨by rw [getD_set hls, if_neg (by omega)]; exact n30, hb, hG.same _ hls (by omega) (by omega)⟩⟩
    ·
      refine wpOp_step (o := { dst := some 45, op := Op.binOp BinOp.add 3 (Operand.tmp 44) (Operand.const (Value.int IntKind.i64 2)) 3, type := 3, pos := "more.go:14", after := #[{ on := 18, ground := Ground.data }], guard := none }) rfl ?_
      intro K hK
      have n30 : listed.getD 30 false = false := by
        cases h : listed.getD 30 false with
        | false => rfl
        | true => rw [hcl 30 19 h (of_decide_eq_true (by kernel_rfl))] at hl; cases hl
      obtain ⟨hb, hG⟩ : PRest w0 vb V az cs ak ck (.slice ap ps.length cp) w ∧ PartG w0.heap.size ps ⟨q0, q1, 1 + (q2 : Int)⟩ (.slice ap ps.length cp) listed (a.tmps) w := by
        rcases hI with ⟨_, hb, hG⟩ | ⟨h, _⟩
        · exact ⟨hb, hG⟩
        · rw [n30] at h; cases h
      have q44_ : a.tmps[44]? = some (.int .i64 (i : Int)) := hS.val 18 44 _ (hd 18 (of_decide_eq_true (by kernel_rfl))) rfl rfl
      go_simp
      exact hK _ _ ⟨hS.put hn 19 45 _ rfl (by rw [hsz0]; omega) (fun u h => by injection h with h; injection h with h; exact h.symm), .inl ⟨by rw [getD_set hls, if_neg (by omega)]; exact n30, hb, hG.same _ hls (by omega) (by omega)⟩⟩
    ·
      refine wpOp_step (o := { dst := some 46, op := Op.indexAddr 23 (Operand.tmp 43) (Operand.tmp 45), type := 0, pos := "more.go:14", after := #[{ on := 17, ground := Ground.data }, { on := 19, ground := Ground.data }], guard := none }) rfl ?_
      intro K hK
      have n30 : listed.getD 30 false = false := by
        cases h : listed.getD 30 false with
        | false => rfl
        | true => rw [hcl 30 20 h (of_decide_eq_true (by kernel_rfl))] at hl; cases hl
      obtain ⟨hb, hG⟩ : PRest w0 vb V az cs ak ck (.slice ap ps.length cp) w ∧ PartG w0.heap.size ps ⟨q0, q1, 1 + (q2 : Int)⟩ (.slice ap ps.length cp) listed (a.tmps) w := by
        rcases hI with ⟨_, hb, hG⟩ | ⟨h, _⟩
        · exact ⟨hb, hG⟩
        · rw [n30] at h; cases h
      have q43_ : a.tmps[43]? = some (.slice (some ⟨mb, mo, none⟩) mn mc) := hS.val 17 43 _ (hd 17 (of_decide_eq_true (by kernel_rfl))) rfl rfl
      have q45_ : a.tmps[45]? = some (.int .i64 (i2 : Int)) := hS.val 19 45 _ (hd 19 (of_decide_eq_true (by kernel_rfl))) rfl rfl
      go_simp
      exact hK _ _ ⟨hS.put hn 20 46 _ rfl (by rw [hsz0]; omega) (fun u h => by injection h with h; injection h with h; exact h.symm), .inl ⟨by rw [getD_set hls, if_neg (by omega)]; exact n30, hb, hG.same _ hls (by omega) (by omega)⟩⟩
    ·
      refine wpOp_step (o := { dst := some 47, op := Op.load 3 (Operand.tmp 46), type := 3, pos := "more.go:14", after := #[{ on := 20, ground := Ground.data }], guard := none }) rfl ?_
      intro K hK
      have n30 : listed.getD 30 false = false := by
        cases h : listed.getD 30 false with
        | false => rfl
        | true => rw [hcl 30 21 h (of_decide_eq_true (by kernel_rfl))] at hl; cases hl
      obtain ⟨hb, hG⟩ : PRest w0 vb V az cs ak ck (.slice ap ps.length cp) w ∧ PartG w0.heap.size ps ⟨q0, q1, 1 + (q2 : Int)⟩ (.slice ap ps.length cp) listed (a.tmps) w := by
        rcases hI with ⟨_, hb, hG⟩ | ⟨h, _⟩
        · exact ⟨hb, hG⟩
        · rw [n30] at h; cases h
      have q46_ : a.tmps[46]? = some (.pointer (some ⟨mb, mo + i2, none⟩)) := hS.val 20 46 _ (hd 20 (of_decide_eq_true (by kernel_rfl))) rfl rfl
      have m0 := (hb.below.cell (p := ⟨mb, mo + i2, none⟩) hml).trans hc2
      go_simp
      exact hK _ _ ⟨hS.put hn 21 47 _ rfl (by rw [hsz0]; omega) (fun u h => by injection h with h; injection h with h; exact h.symm), .inl ⟨by rw [getD_set hls, if_neg (by omega)]; exact n30, hb, hG.same _ hls (by omega) (by omega)⟩⟩
    ·
      refine wpOp_step (o := { dst := some 48, op := Op.convert 3 35 (Operand.tmp 47), type := 35, pos := "more.go:14", after := #[{ on := 21, ground := Ground.data }], guard := none }) rfl ?_
      intro K hK
      have n30 : listed.getD 30 false = false := by
        cases h : listed.getD 30 false with
        | false => rfl
        | true => rw [hcl 30 22 h (of_decide_eq_true (by kernel_rfl))] at hl; cases hl
      obtain ⟨hb, hG⟩ : PRest w0 vb V az cs ak ck (.slice ap ps.length cp) w ∧ PartG w0.heap.size ps ⟨q0, q1, 1 + (q2 : Int)⟩ (.slice ap ps.length cp) listed (a.tmps) w := by
        rcases hI with ⟨_, hb, hG⟩ | ⟨h, _⟩
        · exact ⟨hb, hG⟩
        · rw [n30] at h; cases h
      have q47_ : a.tmps[47]? = some (.int .i64 x2) := hS.val 21 47 _ (hd 21 (of_decide_eq_true (by kernel_rfl))) rfl rfl
      go_simp
      exact hK _ _ ⟨hS.put hn 22 48 _ rfl (by rw [hsz0]; omega) (fun u h => by injection h with h; injection h with h; exact h.symm), .inl ⟨by rw [getD_set hls, if_neg (by omega)]; exact n30, hb, hG.same _ hls (by omega) (by omega)⟩⟩
    ·
      refine wpOp_step (o := { dst := some 49, op := Op.binOp BinOp.rem 35 (Operand.tmp 48) (Operand.const (Value.int IntKind.u64 40)) 35, type := 35, pos := "more.go:14", after := #[{ on := 22, ground := Ground.data }], guard := none }) rfl ?_
      intro K hK
      have n30 : listed.getD 30 false = false := by
        cases h : listed.getD 30 false with
        | false => rfl
        | true => rw [hcl 30 23 h (of_decide_eq_true (by kernel_rfl))] at hl; cases hl
      obtain ⟨hb, hG⟩ : PRest w0 vb V az cs ak ck (.slice ap ps.length cp) w ∧ PartG w0.heap.size ps ⟨q0, q1, 1 + (q2 : Int)⟩ (.slice ap ps.length cp) listed (a.tmps) w := by
        rcases hI with ⟨_, hb, hG⟩ | ⟨h, _⟩
        · exact ⟨hb, hG⟩
        · rw [n30] at h; cases h
      have q48_ : a.tmps[48]? = some (.int .u64 (IntKind.u64.wrap x2)) := hS.val 22 48 _ (hd 22 (of_decide_eq_true (by kernel_rfl))) rfl rfl
      go_simp
      exact hK _ _ ⟨hS.put hn 23 49 _ rfl (by rw [hsz0]; omega) (fun u h => by injection h with h; injection h with h; exact h.symm), .inl ⟨by rw [getD_set hls, if_neg (by omega)]; exact n30, hb, hG.same _ hls (by omega) (by omega)⟩⟩
    ·
      refine wpOp_step (o := { dst := some 50, op := Op.convert 35 3 (Operand.tmp 49), type := 3, pos := "more.go:14", after := #[{ on := 23, ground := Ground.data }], guard := none }) rfl ?_
      intro K hK
      have n30 : listed.getD 30 false = false := by
        cases h : listed.getD 30 false with
        | false => rfl
        | true => rw [hcl 30 24 h (of_decide_eq_true (by kernel_rfl))] at hl; cases hl
      obtain ⟨hb, hG⟩ : PRest w0 vb V az cs ak ck (.slice ap ps.length cp) w ∧ PartG w0.heap.size ps ⟨q0, q1, 1 + (q2 : Int)⟩ (.slice ap ps.length cp) listed (a.tmps) w := by
        rcases hI with ⟨_, hb, hG⟩ | ⟨h, _⟩
        · exact ⟨hb, hG⟩
        · rw [n30] at h; cases h
      have q49_ : a.tmps[49]? = some (.int .u64 (q2 : Int)) := hS.val 23 49 _ (hd 23 (of_decide_eq_true (by kernel_rfl))) rfl rfl
      go_simp
      exact hK _ _ ⟨hS.put hn 24 50 _ rfl (by rw [hsz0]; omega) (fun u h => by injection h with h; injection h with h; exact h.symm), .inl ⟨by rw [getD_set hls, if_neg (by omega)]; exact n30, hb, hG.same _ hls (by omega) (by omega)⟩⟩
    ·
      refine wpOp_step (o := { dst := some 51, op := Op.binOp BinOp.add 3 (Operand.const (Value.int IntKind.i64 1)) (Operand.tmp 50) 3, type := 3, pos := "more.go:14", after := #[{ on := 24, ground := Ground.data }], guard := none }) rfl ?_
      intro K hK
      have n30 : listed.getD 30 false = false := by
        cases h : listed.getD 30 false with
        | false => rfl
        | true => rw [hcl 30 25 h (of_decide_eq_true (by kernel_rfl))] at hl; cases hl
      obtain ⟨hb, hG⟩ : PRest w0 vb V az cs ak ck (.slice ap ps.length cp) w ∧ PartG w0.heap.size ps ⟨q0, q1, 1 + (q2 : Int)⟩ (.slice ap ps.length cp) listed (a.tmps) w := by
        rcases hI with ⟨_, hb, hG⟩ | ⟨h, _⟩
        · exact ⟨hb, hG⟩
        · rw [n30] at h; cases h
      have q50_ : a.tmps[50]? = some (.int .i64 (q2 : Int)) := hS.val 24 50 _ (hd 24 (of_decide_eq_true (by kernel_rfl))) rfl rfl
      go_simp
      exact hK _ _ ⟨hS.put hn 25 51 _ rfl (by rw [hsz0]; omega) (fun u h => by injection h with h; injection h with h; exact h.symm), .inl ⟨by rw [getD_set hls, if_neg (by omega)]; exact n30, hb, hG.same _ hls (by omega) (by omega)⟩⟩
    ·
      refine wpOp_step (o := { dst := some 52, op := Op.build 41 #[(0, Operand.tmp 34), (1, Operand.tmp 42), (2, Operand.tmp 51)], type := 41, pos := "more.go:14", after := #[{ on := 8, ground := Ground.data }, { on := 16, ground := Ground.data }, { on := 25, ground := Ground.data }], guard := none }) rfl ?_
      intro K hK
      have n30 : listed.getD 30 false = false := by
        cases h : listed.getD 30 false with
        | false => rfl
        | true => rw [hcl 30 26 h (of_decide_eq_true (by kernel_rfl))] at hl; cases hl
      obtain ⟨hb, hG⟩ : PRest w0 vb V az cs ak ck (.slice ap ps.length cp) w ∧ PartG w0.heap.size ps ⟨q0, q1, 1 + (q2 : Int)⟩ (.slice ap ps.length cp) listed (a.tmps) w := by
        rcases hI with ⟨_, hb, hG⟩ | ⟨h, _⟩
        · exact ⟨hb, hG⟩
        · rw [n30] at h; cases h
      have q34_ : a.tmps[34]? = some (.int .i64 (q0 : Int)) := hS.val 8 34 _ (hd 8 (of_decide_eq_true (by kernel_rfl))) rfl rfl
      have q42_ : a.tmps[42]? = some (.int .i64 (q1 : Int)) := hS.val 16 42 _ (hd 16 (of_decide_eq_true (by kernel_rfl))) rfl rfl
      have q51_ : a.tmps[51]? = some (.int .i64 (1 + (q2 : Int))) := hS.val 25 51 _ (hd 25 (of_decide_eq_true (by kernel_rfl))) rfl rfl
      go_simp
      exact hK _ _ ⟨hS.put hn 26 52 _ rfl (by rw [hsz0]; omega) (fun u h => by injection h with h; injection h with h; exact h.symm), .inl ⟨by rw [getD_set hls, if_neg (by omega)]; exact n30, hb, hG.same _ hls (by omega) (by omega)⟩⟩
    ·
      refine wpOp_step (o := { dst := some 53, op := Op.buildSlice 24 1 #[(0, Operand.tmp 52)], type := 24, pos := "more.go:14", after := #[{ on := 26, ground := Ground.data }], guard := none }) rfl ?_
      intro K hK
      have n30 : listed.getD 30 false = false := by
        cases h : listed.getD 30 false with
        | false => rfl
        | true => rw [hcl 30 27 h (of_decide_eq_true (by kernel_rfl))] at hl; cases hl
      obtain ⟨hb, hG⟩ : PRest w0 vb V az cs ak ck (.slice ap ps.length cp) w ∧ PartG w0.heap.size ps ⟨q0, q1, 1 + (q2 : Int)⟩ (.slice ap ps.length cp) listed (a.tmps) w := by
        rcases hI with ⟨_, hb, hG⟩ | ⟨h, _⟩
        · exact ⟨hb, hG⟩
        · rw [n30] at h; cases h
      have q52_ : a.tmps[52]? = some (.agg #[.int .i64 (q0 : Int), .int .i64 (q1 : Int), .int .i64 (1 + (q2 : Int))]) := hS.val 26 52 _ (hd 26 (of_decide_eq_true (by kernel_rfl))) rfl rfl
      have n28 : listed.getD 28 false = false := by
        cases h : listed.getD 28 false with
        | false => rfl
        | true => rw [hcl 28 27 h (of_decide_eq_true (by kernel_rfl))] at hl; cases hl
      go_simp
      exact hK _ _ ⟨hS.put hn 27 53 _ rfl (by rw [hsz0]; omega) (fun u h => by cases h), .inl ⟨by rw [getD_set hls, if_neg (by omega)]; exact n30, hb.next ((Below.refl _ w).alloc (Nat.le_refl _) _), hG.lit hls hsz.out n28⟩⟩
    ·
      refine wpOp_step (o := { dst := some 54, op := Op.call { callee := Callee.builtin Builtin.append, args := #[Operand.tmp 27, Operand.tmp 53], argTypes := #[24, 24] }, type := 24, pos := "more.go:14", after := #[{ on := 1, ground := Ground.data }, { on := 27, ground := Ground.data }], guard := none }) rfl ?_
      intro K hK
      have n30 : listed.getD 30 false = false := by
        cases h : listed.getD 30 false with
        | false => rfl
        | true => rw [hcl 30 28 h (of_decide_eq_true (by kernel_rfl))] at hl; cases hl
      obtain ⟨hb, hG⟩ : PRest w0 vb V az cs ak ck (.slice ap ps.length cp) w ∧ PartG w0.heap.size ps ⟨q0, q1, 1 + (q2 : Int)⟩ (.slice ap ps.length cp) listed (a.tmps) w := by
        rcases hI with ⟨_, hb, hG⟩ | ⟨h, _⟩
        · exact ⟨hb, hG⟩
        · rw [n30] at h; cases h
      have q27_ : a.tmps[27]? = some (.slice ap ps.length cp) := hS.val 1 27 _ (hd 1 (of_decide_eq_true (by kernel_rfl))) rfl rfl
      have hv0 := hG.1 hl
      obtain ⟨g, e53, hx53⟩ := hG.2.1 (hd 27 (of_decide_eq_true (by kernel_rfl))) hl
      refine step_append_poles rfl (.tmp 27) (.tmp 53) rfl w0.heap.size 0 _ _ ps [⟨q0, q1, 1 + (q2 : Int)⟩] (eval_of q27_) hv0 (eval_of e53) (Poles.one hx53) (by omega) (by simp) hb.below.size ?_
      intro v' w' hv hgr
      exact hK _ _ ⟨hS.put hn 28 54 _ rfl (by rw [hsz0]; omega) (fun u h => by cases h), .inl ⟨by rw [getD_set hls, if_neg (by omega)]; exact n30, hb.grown hv0 hgr, PartG.all hls hsz.out hv⟩⟩
    ·
      refine wpOp_step (o := { dst := some 55, op := Op.fieldAddr 26 (Operand.tmp 5) 4, type := 0, pos := "more.go:14", after := #[{ on := 0, ground := Ground.phase }, { on := 1, ground := Ground.phase }, { on := 2, ground := Ground.phase }, { on := 3, ground := Ground.phase }, { on := 4, ground := Ground.phase }, { on := 5, ground := Ground.phase }, { on := 6, ground := Ground.phase }, { on := 7, ground := Ground.phase }, { on := 8, ground := Ground.phase }, { on := 9, ground := Ground.phase }, { on := 10, ground := Ground.phase }, { on := 11, ground := Ground.phase }, { on := 12, ground := Ground.phase }, { on := 13, ground := Ground.phase }, { on := 14, ground := Ground.phase }, { on := 15, ground := Ground.phase }, { on := 16, ground := Ground.phase }, { on := 17, ground := Ground.phase }, { on := 18, ground := Ground.phase }, { on := 19, ground := Ground.phase }, { on := 20, ground := Ground.phase }, { on := 21, ground := Ground.phase }, { on := 22, ground := Ground.phase }, { on := 23, ground := Ground.phase }, { on := 24, ground := Ground.phase }, { on := 25, ground := Ground.phase }, { on := 26, ground := Ground.phase }, { on := 27, ground := Ground.phase }, { on := 28, ground := Ground.phase }], guard := none }) rfl ?_
      intro K hK
      have n30 : listed.getD 30 false = false := by
        cases h : listed.getD 30 false with
        | false => rfl
        | true => rw [hcl 30 29 h (of_decide_eq_true (by kernel_rfl))] at hl; cases hl
      obtain ⟨hb, hG⟩ : PRest w0 vb V az cs ak ck (.slice ap ps.length cp) w ∧ PartG w0.heap.size ps ⟨q0, q1, 1 + (q2 : Int)⟩ (.slice ap ps.length cp) listed (a.tmps) w := by
        rcases hI with ⟨_, hb, hG⟩ | ⟨h, _⟩
        · exact ⟨hb, hG⟩
        · rw [n30] at h; cases h
      have q5_ : a.tmps[5]? = some (.pointer (some ⟨vb, 0, none⟩)) := (hS.keep 5 (of_decide_eq_true (by kernel_rfl))).trans h5_
      go_simp
      exact hK _ _ ⟨hS.put hn 29 55 _ rfl (by rw [hsz0]; omega) (fun u h => by injection h with h; injection h with h; exact h.symm), .inl ⟨by rw [getD_set hls, if_neg (by omega)]; exact n30, hb, hG.same _ hls (by omega) (by omega)⟩⟩
    ·
      refine wpOp_step (o := { dst := none, op := Op.store 24 (Operand.tmp 55) (Operand.tmp 54), type := 0, pos := "more.go:14", after := #[{ on := 29, ground := Ground.data }, { on := 28, ground := Ground.data }, { on := 28, ground := Ground.chain }, { on := 0, ground := Ground.phase }, { on := 1, ground := Ground.phase }, { on := 2, ground := Ground.phase }, { on := 3, ground := Ground.phase }, { on := 4, ground := Ground.phase }, { on := 5, ground := Ground.phase }, { on := 6, ground := Ground.phase }, { on := 7, ground := Ground.phase }, { on := 8, ground := Ground.phase }, { on := 9, ground := Ground.phase }, { on := 10, ground := Ground.phase }, { on := 11, ground := Ground.phase }, { on := 12, ground := Ground.phase }, { on := 13, ground := Ground.phase }, { on := 14, ground := Ground.phase }, { on := 15, ground := Ground.phase }, { on := 16, ground := Ground.phase }, { on := 17, ground := Ground.phase }, { on := 18, ground := Ground.phase }, { on := 19, ground := Ground.phase }, { on := 20, ground := Ground.phase }, { on := 21, ground := Ground.phase }, { on := 22, ground := Ground.phase }, { on := 23, ground := Ground.phase }, { on := 24, ground := Ground.phase }, { on := 25, ground := Ground.phase }, { on := 26, ground := Ground.phase }, { on := 27, ground := Ground.phase }, { on := 28, ground := Ground.phase }], guard := none }) rfl ?_
      intro K hK
      obtain ⟨hb, hG⟩ : PRest w0 vb V az cs ak ck (.slice ap ps.length cp) w ∧ PartG w0.heap.size ps ⟨q0, q1, 1 + (q2 : Int)⟩ (.slice ap ps.length cp) listed (a.tmps) w := by
        rcases hI with ⟨_, hb, hG⟩ | ⟨h, _⟩
        · exact ⟨hb, hG⟩
        · rw [hl] at h; cases h
      have q55_ : a.tmps[55]? = some (.pointer (some ⟨vb, 4, none⟩)) := hS.val 29 55 _ (hd 29 (of_decide_eq_true (by kernel_rfl))) rfl rfl
      obtain ⟨v, e54, hv54⟩ := hG.2.2 (hd 28 (of_decide_eq_true (by kernel_rfl)))
      have m0 := hb.box.cell 4 _ rfl
      have z0 := hb.box.frozen 4
      have l0 := hb.box.lt
      obtain ⟨ra, rc, rfl⟩ := row_slice hv54
      rw [show (ps ++ [(⟨q0, q1, 1 + (q2 : Int)⟩ : Pole)]).length = ps.length + 1 by simp] at e54 hv54
      go_simp
      exact hK _ _ ⟨hS.skip 30 rfl, .inr ⟨by rw [getD_set hls, if_pos rfl], w, _, rfl, hb, e54, hv54⟩⟩
  · intro listed a w hall ⟨hS, hI⟩
    rcases hI with ⟨h, _⟩ | ⟨_, w1, v54, rfl, hb, hv54, hown⟩
    · rw [hall 30 (by decide)] at h; cases h
    have hsz : a.tmps.size = 144 := hS.size.trans hsz0
    obtain ⟨v53, hv53⟩ := slot_of (a := a) (k := 53) (by rw [hsz]; omega)
    have hf := hS.frame [(26, .pointer (some ⟨vb, 4, none⟩)), (27, .slice ap ps.length cp), (28, .slice (some ⟨mb, mo, none⟩) mn mc), (29, .int .i64 (i : Int)), (30, .pointer (some ⟨mb, mo + i, none⟩)), (31, .int .i64 x0), (32, .int .u64 (IntKind.u64.wrap x0)), (33, .int .u64 (q0 : Int)), (34, .int .i64 (q0 : Int)), (35, .slice (some ⟨mb, mo, none⟩) mn mc), (36, .int .i64 (i : Int)), (37, .int .i64 (i1 : Int)), (38, .pointer (some ⟨mb, mo + i1, none⟩)), (39, .int .i64 x1), (40, .int .u64 (IntKind.u64.wrap x1)), (41, .int .u64 (q1 : Int)), (42, .int .i64 (q1 : Int)), (43, .slice (some ⟨mb, mo, none⟩) mn mc), (44, .int .i64 (i : Int)), (45, .int .i64 (i2 : Int)), (46, .pointer (some ⟨mb, mo + i2, none⟩)), (47, .int .i64 x2), (48, .int .u64 (IntKind.u64.wrap x2)), (49, .int .u64 (q2 : Int)), (50, .int .i64 (q2 : Int)), (51, .int .i64 (1 + (q2 : Int))), (52, .agg #[.int .i64 (q0 : Int), .int .i64 (q1 : Int), .int .i64 (1 + (q2 : Int))]), (53, v53), (54, v54), (55, .pointer (some ⟨vb, 4, none⟩))] rfl (of_decide_eq_true (by kernel_rfl)) (by
      simp only [List.map_cons, List.map_nil, List.all_cons, List.all_nil, hsz0]; rfl) (by
      intro p hp
      simp only [List.mem_cons, List.not_mem_nil, or_false] at hp
      rcases hp with rfl | rfl | rfl | rfl | rfl | rfl | rfl | rfl | rfl | rfl | rfl | rfl | rfl | rfl | rfl | rfl | rfl | rfl | rfl | rfl | rfl | rfl | rfl | rfl | rfl | rfl | rfl | rfl | rfl | rfl
      · exact hS.val 0 26 _ (hall 0 (by decide)) rfl rfl
      · exact hS.val 1 27 _ (hall 1 (by decide)) rfl rfl
      · exact hS.val 2 28 _ (hall 2 (by decide)) rfl rfl
      · exact hS.val 3 29 _ (hall 3 (by decide)) rfl rfl
      · exact hS.val 4 30 _ (hall 4 (by decide)) rfl rfl
      · exact hS.val 5 31 _ (hall 5 (by decide)) rfl rfl
      · exact hS.val 6 32 _ (hall 6 (by decide)) rfl rfl
      · exact hS.val 7 33 _ (hall 7 (by decide)) rfl rfl
      · exact hS.val 8 34 _ (hall 8 (by decide)) rfl rfl
      · exact hS.val 9 35 _ (hall 9 (by decide)) rfl rfl
      · exact hS.val 10 36 _ (hall 10 (by decide)) rfl rfl
      · exact hS.val 11 37 _ (hall 11 (by decide)) rfl rfl
      · exact hS.val 12 38 _ (hall 12 (by decide)) rfl rfl
      · exact hS.val 13 39 _ (hall 13 (by decide)) rfl rfl
      · exact hS.val 14 40 _ (hall 14 (by decide)) rfl rfl
      · exact hS.val 15 41 _ (hall 15 (by decide)) rfl rfl
      · exact hS.val 16 42 _ (hall 16 (by decide)) rfl rfl
      · exact hS.val 17 43 _ (hall 17 (by decide)) rfl rfl
      · exact hS.val 18 44 _ (hall 18 (by decide)) rfl rfl
      · exact hS.val 19 45 _ (hall 19 (by decide)) rfl rfl
      · exact hS.val 20 46 _ (hall 20 (by decide)) rfl rfl
      · exact hS.val 21 47 _ (hall 21 (by decide)) rfl rfl
      · exact hS.val 22 48 _ (hall 22 (by decide)) rfl rfl
      · exact hS.val 23 49 _ (hall 23 (by decide)) rfl rfl
      · exact hS.val 24 50 _ (hall 24 (by decide)) rfl rfl
      · exact hS.val 25 51 _ (hall 25 (by decide)) rfl rfl
      · exact hS.val 26 52 _ (hall 26 (by decide)) rfl rfl
      · exact hv53
      · exact hv54
      · exact hS.val 29 55 _ (hall 29 (by decide)) rfl rfl)
    rw [hf]
    exact hQ w1 v53 v54 hb hown
set_option maxHeartbeats 16000000 in
theorem uk_region {Q : Exit → Act → World → Prop} (a0 : Act) (W : World) (hsz0 : a0.tmps.size = 144) (vb : Nat) (a1 a2 a3 : Option Addr) (n1 c1 n2 c2 n3 c3 : Nat) (gap rad : Int) (UL : List Bool) (KL : List Int) (hx : Box W vb 26 #[.slice a1 n1 c1, .int .i64 gap, .int .i64 rad, .slice a2 n2 c2, .slice a3 n3 c3])
    (h5_ : a0.tmps[5]? = some (.pointer (some ⟨vb, 0, none⟩)))
    (hc1 : ∀ w, Below W.heap.size W w → Calls Try.prog 11 #[.agg #[.slice a1 n1 c1, .int .i64 gap, .int .i64 rad, .slice a2 n2 c2, .slice a3 n3 c3]] w fun e w' => ∃ v, e = .returned v ∧ MarksV w' v UL ∧ Below w.heap.size w w')
    (hc3 : ∀ w, Below W.heap.size W w → Calls Try.prog 13 #[.agg #[.slice a1 n1 c1, .int .i64 gap, .int .i64 rad, .slice a2 n2 c2, .slice a3 n3 c3]] w fun e w' => ∃ v, e = .returned v ∧ Sl 1 intC w' v KL ∧ Below w.heap.size w w')
    (hQ : ∀ w' v1 v3 v4 v5, Below W.heap.size W w' → MarksV w' v4 UL → Sl 1 intC w' v5 KL → Q .normal { tmps := putAll a0.tmps [(56, .agg #[.slice a1 n1 c1, .int .i64 gap, .int .i64 rad, .slice a2 n2 c2, .slice a3 n3 c3]), (57, v1), (58, .agg #[.slice a1 n1 c1, .int .i64 gap, .int .i64 rad, .slice a2 n2 c2, .slice a3 n3 c3]), (59, v3), (7, v4), (8, v5)], defers := a0.defers } w') :
    (Code.region 6 #[{ dst := some 56, op := Op.load 26 (Operand.tmp 5), type := 26, pos := "more.go:16", after := #[], guard := none }, { dst := some 57, op := Op.call { callee := Callee.value (Operand.func 11), args := #[Operand.tmp 56], argTypes := #[26] }, type := 29, pos := "more.go:16", after := #[{ on := 0, ground := Ground.data }], guard := none }, { dst := some 58, op := Op.load 26 (Operand.tmp 5), type := 26, pos := "more.go:16", after := #[], guard := none }, { dst := some 59, op := Op.call { callee := Callee.value (Operand.func 13), args := #[Operand.tmp 58], argTypes := #[26] }, type := 23, pos := "more.go:16", after := #[{ on := 2, ground := Ground.data }, { on := 1, ground := Ground.chain }], guard := none }, { dst := some 7, op := Op.assign (Operand.tmp 57), type := 29, pos := "more.go:16", after := #[{ on := 1, ground := Ground.data }, { on := 3, ground := Ground.chain }, { on := 0, ground := Ground.phase }, { on := 1, ground := Ground.phase }, { on := 2, ground := Ground.textOnly Departure.lateStores }, { on := 3, ground := Ground.textOnly Departure.lateStoresUnsure }], guard := none }, { dst := some 8, op := Op.assign (Operand.tmp 59), type := 23, pos := "more.go:16", after := #[{ on := 3, ground := Ground.data }, { on := 4, ground := Ground.chain }, { on := 0, ground := Ground.phase }, { on := 1, ground := Ground.phase }, { on := 2, ground := Ground.phase }, { on := 3, ground := Ground.phase }, { on := 4, ground := Ground.phase }], guard := none }] true).wp Try.prog Q a0 W := by
  have hn : ([some 56, some 57, some 58, some 59, some 7, some 8] : List (Option Nat)).Pairwise (fun x y => x = none ∨ x ≠ y) := of_decide_eq_true (by kernel_rfl)
  refine wp_region_inv mixed (fun listed a w => Slots a0 [some 56, some 57, some 58, some 59, some 7, some 8] [some (.agg #[.slice a1 n1 c1, .int .i64 gap, .int .i64 rad, .slice a2 n2 c2, .slice a3 n3 c3]), none, some (.agg #[.slice a1 n1 c1, .int .i64 gap, .int .i64 rad, .slice a2 n2 c2, .slice a3 n3 c3]), none, none, none] listed a ∧ Below W.heap.size W w ∧ (listed.getD 1 false = true → ∃ v, a.tmps[57]? = some v ∧ MarksV w v UL) ∧ (listed.getD 3 false = true → ∃ v, a.tmps[59]? = some v ∧ Sl 1 intC w v KL) ∧ (listed.getD 4 false = true → ∃ v, a.tmps[7]? = some v ∧ MarksV w v UL) ∧ (listed.getD 5 false = true → ∃ v, a.tmps[8]? = some v ∧ Sl 1 intC w v KL)) (by kernel_rfl) ?_ ?_ ?_
  · exact ⟨Slots.start _ _ _ _, (Below.refl _ W).drew, fun h => (by rw [start_false] at h; cases h), fun h => (by rw [start_false] at h; cases h), fun h => (by rw [start_false] at h; cases h), fun h => (by rw [start_false] at h; cases h)⟩
  · intro listed a w i' hsl hilt hl hd hcl ⟨hS, hb, hA1, hA3, hA4, hA5⟩
    have hsz : Hid (a.tmps.size = 144) := hS.size.trans hsz0
    have hls : i' < listed.size := by rw [hsl]; exact hilt
    have hcase : i' = 0 ∨ i' = 1 ∨ i' = 2 ∨ i' = 3 ∨ i' = 4 ∨ i' = 5 := by
      have : i' < 6 := hilt
      omega
    rcases hcase with rfl | rfl | rfl | rfl | rfl | rfl
    ·
      refine wpOp_step (o := { dst := some 56, op := Op.load 26 (Operand.tmp 5), type := 26, pos := "more.go:16", after := #[], guard := none }) rfl ?_
      intro K hK
      have q5_ : a.tmps[5]? = some (.pointer (some ⟨vb, 0, none⟩)) := (hS.keep 5 (of_decide_eq_true (by kernel_rfl))).trans h5_
      have m0 := (hx.next hb).cell 0 _ rfl
      have m1 := (hx.next hb).cell 1 _ rfl
      have m2 := (hx.next hb).cell 2 _ rfl
      have m3 := (hx.next hb).cell 3 _ rfl
      have m4 := (hx.next hb).cell 4 _ rfl
      go_simp
      exact hK _ _ ⟨hS.put hn 0 56 _ rfl (by rw [hsz0]; omega) (fun u h => by injection h with h; injection h with h; exact h.symm), hb, fun h => by
        rw [getD_set hls, if_neg (by omega)] at h
        obtain ⟨v, hv1, hv2⟩ := hA1 h
        exact ⟨v, by simpa using hv1, hv2⟩, fun h => by
        rw [getD_set hls, if_neg (by omega)] at h
        obtain ⟨v, hv1, hv2⟩ := hA3 h
        exact ⟨v, by simpa using hv1, hv2⟩, fun h => by
        rw [getD_set hls, if_neg (by omega)] at h
        obtain ⟨v, hv1, hv2⟩ := hA4 h
        exact ⟨v, by simpa using hv1, hv2⟩, fun h => by
        rw [getD_set hls, if_neg (by omega)] at h
        obtain ⟨v, hv1, hv2⟩ := hA5 h
        exact ⟨v, by simpa using hv1, hv2⟩⟩
    ·
      refine wpOp_step (o := { dst := some 57, op := Op.call { callee := Callee.value (Operand.func 11), args := #[Operand.tmp 56], argTypes := #[26] }, type := 29, pos := "more.go:16", after := #[{ on := 0, ground := Ground.data }], guard := none }) rfl ?_
      intro K hK
      have q56_ : a.tmps[56]? = some (.agg #[.slice a1 n1 c1, .int .i64 gap, .int .i64 rad, .slice a2 n2 c2, .slice a3 n3 c3]) := hS.val 0 56 _ (hd 0 (of_decide_eq_true (by kernel_rfl))) rfl rfl
      have hc := hc1 w hb
      go_simp
      go_at_call 11
      refine hc.mono ?_
      rintro e w' ⟨v, rfl, hrow, hb2⟩
      have hs2 : 57 < a.tmps.size := by rw [hsz.out]; omega
      exact hK _ _ ⟨hS.put hn 1 57 _ rfl (by rw [hsz0]; omega) (fun u h => by cases h), hb.trans (hb2.mono hb.size), fun h => ⟨v, by simp [hs2], hrow⟩, fun h => by
        rw [getD_set hls, if_neg (by omega)] at h
        obtain ⟨v, hv1, hv2⟩ := hA3 h
        exact ⟨v, by simpa using hv1, hv2.next hb2⟩, fun h => by
        rw [getD_set hls, if_neg (by omega)] at h
        obtain ⟨v, hv1, hv2⟩ := hA4 h
        exact ⟨v, by simpa using hv1, hv2.next hb2⟩, fun h => by
        rw [getD_set hls, if_neg (by omega)] at h
        obtain ⟨v, hv1, hv2⟩ := hA5 h
        exact ⟨v, by simpa using hv1, hv2.next hb2⟩⟩
    ·
      refine wpOp_step (o := { dst := some 58, op := Op.load 26 (Operand.tmp 5), type := 26, pos := "more.go:16", after := #[], guard := none }) rfl ?_
      intro K hK
      have q5_ : a.tmps[5]? = some (.pointer (some ⟨vb, 0, none⟩)) := (hS.keep 5 (of_decide_eq_true (by kernel_rfl))).trans h5_
      have m0 := (hx.next hb).cell 0 _ rfl
      have m1 := (hx.next hb).cell 1 _ rfl
      have m2 := (hx.next hb).cell 2 _ rfl
      have m3 := (hx.next hb).cell 3 _ rfl
      have m4 := (hx.next hb).cell 4 _ rfl
      go_simp
      exact hK _ _ ⟨hS.put hn 2 58 _ rfl (by rw [hsz0]; omega) (fun u h => by injection h with h; injection h with h; exact h.symm), hb, fun h => by
        rw [getD_set hls, if_neg (by omega)] at h
        obtain ⟨v, hv1, hv2⟩ := hA1 h
        exact ⟨v, by simpa using hv1, hv2⟩, fun h => by
        rw [getD_set hls, if_neg (by omega)] at h
        obtain ⟨v, hv1, hv2⟩ := hA3 h
        exact ⟨v, by simpa using hv1, hv2⟩, fun h => by
        rw [getD_set hls, if_neg (by omega)] at h
        obtain ⟨v, hv1, hv2⟩ := hA4 h
        exact ⟨v, by simpa using hv1, hv2⟩, fun h => by
        rw [getD_set hls, if_neg (by omega)] at h
        obtain ⟨v, hv1, hv2⟩ := hA5 h
        exact ⟨v, by simpa using hv1, hv2⟩⟩
    ·
      refine wpOp_step (o := { dst := some 59, op := Op.call { callee := Callee.value (Operand.func 13), args := #[Operand.tmp 58], argTypes := #[26] }, type := 23, pos := "more.go:16", after := #[{ on := 2, ground := Ground.data }, { on := 1, ground := Ground.chain }], guard := none }) rfl ?_
      intro K hK
      have q58_ : a.tmps[58]? = some (.agg #[.slice a1 n1 c1, .int .i64 gap, .int .i64 rad, .slice a2 n2 c2, .slice a3 n3 c3]) := hS.val 2 58 _ (hd 2 (of_decide_eq_true (by kernel_rfl))) rfl rfl
      have hc := hc3 w hb
      go_simp
      go_at_call 13
      refine hc.mono ?_
      rintro e w' ⟨v, rfl, hrow, hb2⟩
      have hs2 : 59 < a.tmps.size := by rw [hsz.out]; omega
      exact hK _ _ ⟨hS.put hn 3 59 _ rfl (by rw [hsz0]; omega) (fun u h => by cases h), hb.trans (hb2.mono hb.size), fun h => by
        rw [getD_set hls, if_neg (by omega)] at h
        obtain ⟨v, hv1, hv2⟩ := hA1 h
        exact ⟨v, by simpa using hv1, hv2.next hb2⟩, fun h => ⟨v, by simp [hs2], hrow⟩, fun h => by
        rw [getD_set hls, if_neg (by omega)] at h
        obtain ⟨v, hv1, hv2⟩ := hA4 h
        exact ⟨v, by simpa using hv1, hv2.next hb2⟩, fun h => by
        rw [getD_set hls, if_neg (by omega)] at h
        obtain ⟨v, hv1, hv2⟩ := hA5 h
        exact ⟨v, by simpa using hv1, hv2.next hb2⟩⟩
    ·
      refine wpOp_step (o := { dst := some 7, op := Op.assign (Operand.tmp 57), type := 29, pos := "more.go:16", after := #[{ on := 1, ground := Ground.data }, { on := 3, ground := Ground.chain }, { on := 0, ground := Ground.phase }, { on := 1, ground := Ground.phase }, { on := 2, ground := Ground.textOnly Departure.lateStores }, { on := 3, ground := Ground.textOnly Departure.lateStoresUnsure }], guard := none }) rfl ?_
      intro K hK
      obtain ⟨v, hv_, hp_⟩ := hA1 (hd 1 (of_decide_eq_true (by kernel_rfl)))
      have hs2 : 7 < a.tmps.size := by rw [hsz.out]; omega
      go_simp
      exact hK _ _ ⟨hS.put hn 4 7 _ rfl (by rw [hsz0]; omega) (fun u h => by cases h), hb, fun h => by
        rw [getD_set hls, if_neg (by omega)] at h
        obtain ⟨v, hv1, hv2⟩ := hA1 h
        exact ⟨v, by simpa using hv1, hv2⟩, fun h => by
        rw [getD_set hls, if_neg (by omega)] at h
        obtain ⟨v, hv1, hv2⟩ := hA3 h
        exact ⟨v, by simpa using hv1, hv2⟩, fun h => ⟨v, by simp [hs2], hp_⟩, fun h => by
        rw [getD_set hls, if_neg (by omega)] at h
        obtain ⟨v, hv1, hv2⟩ := hA5 h
        exact ⟨v, by simpa using hv1, hv2⟩⟩
    ·
      refine wpOp_step (o := { dst := some 8, op := Op.assign (Operand.tmp 59), type := 23, pos := "more.go:16", after := #[{ on := 3, ground := Ground.data }, { on := 4, ground := Ground.chain }, { on := 0, ground := Ground.phase }, { on := 1, ground := Ground.phase }, { on := 2, ground := Ground.phase }, { on := 3, ground := Ground.phase }, { on := 4, ground := Ground.phase }], guard := none }) rfl ?_
      intro K hK
      obtain ⟨v, hv_, hp_⟩ := hA3 (hd 3 (of_decide_eq_true (by kernel_rfl)))
      have hs2 : 8 < a.tmps.size := by rw [hsz.out]; omega
      go_simp
      exact hK _ _ ⟨hS.put hn 5 8 _ rfl (by rw [hsz0]; omega) (fun u h => by cases h), hb, fun h => by
        rw [getD_set hls, if_neg (by omega)] at h
        obtain ⟨v, hv1, hv2⟩ := hA1 h
        exact ⟨v, by simpa using hv1, hv2⟩, fun h => by
        rw [getD_set hls, if_neg (by omega)] at h
        obtain ⟨v, hv1, hv2⟩ := hA3 h
        exact ⟨v, by simpa using hv1, hv2⟩, fun h => by
        rw [getD_set hls, if_neg (by omega)] at h
        obtain ⟨v, hv1, hv2⟩ := hA4 h
        exact ⟨v, by simpa using hv1, hv2⟩, fun h => ⟨v, by simp [hs2], hp_⟩⟩
  · intro listed a w hall ⟨hS, hb, hA1, hA3, hA4, hA5⟩
    obtain ⟨v1, hv1, hi1⟩ := hA1 (hall 1 (by decide))
    obtain ⟨v3, hv3, hi3⟩ := hA3 (hall 3 (by decide))
    obtain ⟨v4, hv4, hi4⟩ := hA4 (hall 4 (by decide))
    obtain ⟨v5, hv5, hi5⟩ := hA5 (hall 5 (by decide))
    have hf := hS.frame [(56, .agg #[.slice a1 n1 c1, .int .i64 gap, .int .i64 rad, .slice a2 n2 c2, .slice a3 n3 c3]), (57, v1), (58, .agg #[.slice a1 n1 c1, .int .i64 gap, .int .i64 rad, .slice a2 n2 c2, .slice a3 n3 c3]), (59, v3), (7, v4), (8, v5)] rfl (of_decide_eq_true (by kernel_rfl)) (by
      simp only [List.map_cons, List.map_nil, List.all_cons, List.all_nil, hsz0]; rfl) (by
      intro p hp
      simp only [List.mem_cons, List.not_mem_nil, or_false] at hp
      rcases hp with rfl | rfl | rfl | rfl | rfl | rfl
      · exact hS.val 0 56 _ (hall 0 (by decide)) rfl rfl
      · exact hv1
      · exact hS.val 2 58 _ (hall 2 (by decide)) rfl rfl
      · exact hv3
      · exact hv4
      · exact hv5)
    rw [hf]
    exact hQ w v1 v3 v4 v5 hb hi4 hi5
set_option maxHeartbeats 16000000 in
theorem last_region0 {Q : Exit → Act → World → Prop} (a0 : Act) (W : World) (hsz0 : a0.tmps.size = 144) (vb : Nat) (a1 a2 a3 ba : Option Addr) (n1 c1 n2 c2 n3 c3 bc : Nat) (gap rad : Int) (hx : Box W vb 26 #[.slice a1 n1 c1, .int .i64 gap, .int .i64 rad, .slice a2 n2 c2, .slice a3 n3 c3])
    (h5_ : a0.tmps[5]? = some (.pointer (some ⟨vb, 0, none⟩))) (h11_ : a0.tmps[11]? = some (.slice ba 0 bc))
    (hQ : ∀ w' , Below W.heap.size W w' → Q .normal { tmps := putAll a0.tmps [(110, .slice ba 0 bc), (111, .int .i64 0), (112, .bool false), (113, .bool false), (114, undef), (115, undef), (116, undef), (117, undef), (118, undef), (119, undef), (120, undef), (121, undef), (122, undef), (123, undef), (124, undef), (125, undef), (126, undef), (127, undef), (128, undef), (129, undef), (130, .bool false)], defers := a0.defers } w') :
    (Code.region 23 #[{ dst := some 110, op := Op.move (Operand.tmp 11), type := 23, pos := "more.go:34", after := #[], guard := none }, { dst := some 111, op := Op.call { callee := Callee.builtin Builtin.len, args := #[Operand.tmp 110], argTypes := #[23] }, type := 3, pos := "more.go:34", after := #[{ on := 0, ground := Ground.data }], guard := none }, { dst := some 112, op := Op.binOp BinOp.gtr 3 (Operand.tmp 111) (Operand.const (Value.int IntKind.i64 0)) 3, type := 4, pos := "more.go:34", after := #[{ on := 1, ground := Ground.data }], guard := none }, { dst := some 113, op := Op.move (Operand.tmp 112), type := 4, pos := "more.go:34", after := #[{ on := 2, ground := Ground.data }], guard := none }, { dst := some 114, op := Op.move (Operand.tmp 11), type := 23, pos := "more.go:34", after := #[{ on := 3, ground := Ground.guard }], guard := some (3, true) }, { dst := some 115, op := Op.indexAddr 23 (Operand.tmp 114) (Operand.const (Value.int IntKind.i64 0)), type := 0, pos := "more.go:34", after := #[{ on := 4, ground := Ground.data }, { on := 3, ground := Ground.guard }], guard := some (3, true) }, { dst := some 116, op := Op.load 3 (Operand.tmp 115), type := 3, pos := "more.go:34", after := #[{ on := 5, ground := Ground.data }, { on := 3, ground := Ground.guard }], guard := some (3, true) }, { dst := some 117, op := Op.binOp BinOp.lss 3 (Operand.tmp 116) (Operand.const (Value.int IntKind.i64 (-1))) 3, type := 4, pos := "more.go:34", after := #[{ on := 6, ground := Ground.data }, { on := 3, ground := Ground.guard }], guard := some (3, true) }, { dst := some 118, op := Op.move (Operand.tmp 117), type := 4, pos := "more.go:34", after := #[{ on := 7, ground := Ground.data }, { on := 3, ground := Ground.chain }, { on := 3, ground := Ground.guard }], guard := some (3, true) }, { dst := some 119, op := Op.move (Operand.tmp 11), type := 23, pos := "more.go:34", after := #[{ on := 8, ground := Ground.guard }], guard := some (8, false) }, { dst := some 120, op := Op.move (Operand.tmp 11), type := 23, pos := "more.go:34", after := #[{ on := 8, ground := Ground.guard }], guard := some (8, false) }, { dst := some 121, op := Op.call { callee := Callee.builtin Builtin.len, args := #[Operand.tmp 120], argTypes := #[23] }, type := 3, pos := "more.go:34", after := #[{ on := 10, ground := Ground.data }, { on := 8, ground := Ground.guard }], guard := some (8, false) }, { dst := some 122, op := Op.binOp BinOp.sub 3 (Operand.tmp 121) (Operand.const (Value.int IntKind.i64 1)) 3, type := 3, pos := "more.go:34", after := #[{ on := 11, ground := Ground.data }, { on := 8, ground := Ground.guard }], guard := some (8, false) }, { dst := some 123, op := Op.indexAddr 23 (Operand.tmp 119) (Operand.tmp 122), type := 0, pos := "more.go:34", after := #[{ on := 9, ground := Ground.data }, { on := 12, ground := Ground.data }, { on := 8, ground := Ground.guard }], guard := some (8, false) }, { dst := some 124, op := Op.load 3 (Operand.tmp 123), type := 3, pos := "more.go:34", after := #[{ on := 13, ground := Ground.data }, { on := 8, ground := Ground.guard }], guard := some (8, false) }, { dst := some 125, op := Op.fieldAddr 26 (Operand.tmp 5) 4, type := 0, pos := "more.go:34", after := #[{ on := 8, ground := Ground.guard }], guard := some (8, false) }, { dst := some 126, op := Op.load 24 (Operand.tmp 125), type := 24, pos := "more.go:34", after := #[{ on := 15, ground := Ground.data }, { on := 8, ground := Ground.guard }], guard := some (8, false) }, { dst := some 127, op := Op.call { callee := Callee.builtin Builtin.len, args := #[Operand.tmp 126], argTypes := #[24] }, type := 3, pos := "more.go:34", after := #[{ on := 16, ground := Ground.data }, { on := 8, ground := Ground.guard }], guard := some (8, false) }, { dst := some 128, op := Op.binOp BinOp.geq 3 (Operand.tmp 124) (Operand.tmp 127) 3, type := 4, pos := "more.go:34", after := #[{ on := 14, ground := Ground.data }, { on := 17, ground := Ground.data }, { on := 8, ground := Ground.guard }], guard := some (8, false) }, { dst := some 129, op := Op.pick (Operand.tmp 118) (Operand.const (Value.bool true)) (Operand.tmp 128), type := 4, pos := "more.go:34", after := #[{ on := 8, ground := Ground.data }, { on := 18, ground := Ground.data }, { on := 3, ground := Ground.guard }], guard := some (3, true) }, { dst := some 130, op := Op.pick (Operand.tmp 113) (Operand.tmp 129) (Operand.const (Value.bool false)), type := 4, pos := "more.go:34", after := #[{ on := 3, ground := Ground.data }, { on := 19, ground := Ground.data }], guard := none }] true).wp Try.prog Q a0 W := by
  have hn : ([some 110, some 111, some 112, some 113, some 114, some 115, some 116, some 117, some 118, some 119, some 120, some 121, some 122, some 123, some 124, some 125, some 126, some 127, some 128, some 129, some 130] : List (Option Nat)).Pairwise (fun x y => x = none ∨ x ≠ y) := of_decide_eq_true (by kernel_rfl)
  refine wp_region_inv mixed (fun listed a w => Slots a0 [some 110, some 111, some 112, some 113, some 114, some 115, some 116, some 117, some 118, some 119, some 120, some 121, some 122, some 123, some 124, some 125, some 126, some 127, some 128, some 129, some 130] [some (.slice ba 0 bc), some (.int .i64 0), some (.bool false), some (.bool false), some (undef), some (undef), some (undef), some (undef), some (undef), some (undef), some (undef), some (undef), some (undef), some (undef), some (undef), some (undef), some (undef), some (undef), some (undef), some (undef), some (.bool false)] listed a ∧ Below W.heap.size W w) (by kernel_rfl) ?_ ?_ ?_
  · exact ⟨Slots.start _ _ _ _, (Below.refl _ W).drew⟩
  · intro listed a w i' hsl hilt hl hd hcl ⟨hS, hb⟩
    have hsz : Hid (a.tmps.size = 144) := hS.size.trans hsz0
    have hls : i' < listed.size := by rw [hsl]; exact hilt
    have hcase : i' = 0 ∨ i' = 1 ∨ i' = 2 ∨ i' = 3 ∨ i' = 4 ∨ i' = 5 ∨ i' = 6 ∨ i' = 7 ∨ i' = 8 ∨ i' = 9 ∨ i' = 10 ∨ i' = 11 ∨ i' = 12 ∨ i' = 13 ∨ i' = 14 ∨ i' = 15 ∨ i' = 16 ∨ i' = 17 ∨ i' = 18 ∨ i' = 19 ∨ i' = 20 := by
      have : i' < 21 := hilt
      omega
    rcases hcase with rfl | rfl | rfl | rfl | rfl | rfl | rfl | rfl | rfl | rfl | rfl | rfl | rfl | rfl | rfl | rfl | rfl | rfl | rfl | rfl | rfl
    ·
      refine wpOp_step (o := { dst := some 110, op := Op.move (Operand.tmp 11), type := 23, pos := "more.go:34", after := #[], guard := none }) rfl ?_
      intro K hK
      have q11_ : a.tmps[11]? = some (.slice ba 0 bc) := (hS.keep 11 (of_decide_eq_true (by kernel_rfl))).trans h11_
      go_simp
      exact hK _ _ ⟨hS.put hn 0 110 _ rfl (by rw [hsz0]; omega) (fun u h => by injection h with h; injection h with h; exact h.symm), hb⟩
    ·
      refine wpOp_step (o := { dst := some 111, op := Op.call { callee := Callee.builtin Builtin.len, args := #[Operand.tmp 110], argTypes := #[23] }, type := 3, pos := "more.go:34", after := #[{ on := 0, ground := Ground.data }], guard := none }) rfl ?_
      intro K hK
      have q110_ : a.tmps[110]? = some (.slice ba 0 bc) := hS.val 0 110 _ (hd 0 (of_decide_eq_true (by kernel_rfl))) rfl rfl
      go_simp
      exact hK _ _ ⟨hS.put hn 1 111 _ rfl (by rw [hsz0]; omega) (fun u h => by injection h with h; injection h with h; exact h.symm), hb⟩
    ·
      refine wpOp_step (o := { dst := some 112, op := Op.binOp BinOp.gtr 3 (Operand.tmp 111) (Operand.const (Value.int IntKind.i64 0)) 3, type := 4, pos := "more.go:34", after := #[{ on := 1, ground := Ground.data }], guard := none }) rfl ?_
      intro K hK
      have q111_ : a.tmps[111]? = some (.int .i64 0) := hS.val 1 111 _ (hd 1 (of_decide_eq_true (by kernel_rfl))) rfl rfl
      go_simp
      exact hK _ _ ⟨hS.put hn 2 112 _ rfl (by rw [hsz0]; omega) (fun u h => by injection h with h; injection h with h; exact h.symm), hb⟩
    ·
      refine wpOp_step (o := { dst := some 113, op := Op.move (Operand.tmp 112), type := 4, pos := "more.go:34", after := #[{ on := 2, ground := Ground.data }], guard := none }) rfl ?_
      intro K hK
      have q112_ : a.tmps[112]? = some (.bool false) := hS.val 2 112 _ (hd 2 (of_decide_eq_true (by kernel_rfl))) rfl rfl
      go_simp
      exact hK _ _ ⟨hS.put hn 3 113 _ rfl (by rw [hsz0]; omega) (fun u h => by injection h with h; injection h with h; exact h.symm), hb⟩
    ·
      refine wpOp_step (o := { dst := some 114, op := Op.move (Operand.tmp 11), type := 23, pos := "more.go:34", after := #[{ on := 3, ground := Ground.guard }], guard := some (3, true) }) rfl ?_
      intro K hK
      have q113_ : a.tmps[113]? = some (.bool false) := hS.val 3 113 _ (hd 3 (of_decide_eq_true (by kernel_rfl))) rfl rfl
      rw [if_neg (unwanted_guard (j := 3) (d := 113) (b := true) rfl rfl q113_)]
      exact hK { tmps := a.tmps.setIfInBounds 114 undef, defers := a.defers } w ⟨hS.put hn 4 114 _ rfl (by rw [hsz0]; omega) (fun u h => by injection h with h; injection h with h; exact h.symm), hb⟩
    ·
      refine wpOp_step (o := { dst := some 115, op := Op.indexAddr 23 (Operand.tmp 114) (Operand.const (Value.int IntKind.i64 0)), type := 0, pos := "more.go:34", after := #[{ on := 4, ground := Ground.data }, { on := 3, ground := Ground.guard }], guard := some (3, true) }) rfl ?_
      intro K hK
      have q113_ : a.tmps[113]? = some (.bool false) := hS.val 3 113 _ (hd 3 (of_decide_eq_true (by kernel_rfl))) rfl rfl
      rw [if_neg (unwanted_guard (j := 3) (d := 113) (b := true) rfl rfl q113_)]
      exact hK { tmps := a.tmps.setIfInBounds 115 undef, defers := a.defers } w ⟨hS.put hn 5 115 _ rfl (by rw [hsz0]; omega) (fun u h => by injection h with h; injection h with h; exact h.symm), hb⟩
    ·
      refine wpOp_step (o := { dst := some 116, op := Op.load 3 (Operand.tmp 115), type := 3, pos := "more.go:34", after := #[{ on := 5, ground := Ground.data }, { on := 3, ground := Ground.guard }], guard := some (3, true) }) rfl ?_
      intro K hK
      have q113_ : a.tmps[113]? = some (.bool false) := hS.val 3 113 _ (hd 3 (of_decide_eq_true (by kernel_rfl))) rfl rfl
      rw [if_neg (unwanted_guard (j := 3) (d := 113) (b := true) rfl rfl q113_)]
      exact hK { tmps := a.tmps.setIfInBounds 116 undef, defers := a.defers } w ⟨hS.put hn 6 116 _ rfl (by rw [hsz0]; omega) (fun u h => by injection h with h; injection h with h; exact h.symm), hb⟩
    ·
      refine wpOp_step (o := { dst := some 117, op := Op.binOp BinOp.lss 3 (Operand.tmp 116) (Operand.const (Value.int IntKind.i64 (-1))) 3, type := 4, pos := "more.go:34", after := #[{ on := 6, ground := Ground.data }, { on := 3, ground := Ground.guard }], guard := some (3, true) }) rfl ?_
      intro K hK
      have q113_ : a.tmps[113]? = some (.bool false) := hS.val 3 113 _ (hd 3 (of_decide_eq_true (by kernel_rfl))) rfl rfl
      rw [if_neg (unwanted_guard (j := 3) (d := 113) (b := true) rfl rfl q113_)]
      exact hK { tmps := a.tmps.setIfInBounds 117 undef, defers := a.defers } w ⟨hS.put hn 7 117 _ rfl (by rw [hsz0]; omega) (fun u h => by injection h with h; injection h with h; exact h.symm), hb⟩
    ·
      refine wpOp_step (o := { dst := some 118, op := Op.move (Operand.tmp 117), type := 4, pos := "more.go:34", after := #[{ on := 7, ground := Ground.data }, { on := 3, ground := Ground.chain }, { on := 3, ground := Ground.guard }], guard := some (3, true) }) rfl ?_
      intro K hK
      have q113_ : a.tmps[113]? = some (.bool false) := hS.val 3 113 _ (hd 3 (of_decide_eq_true (by kernel_rfl))) rfl rfl
      rw [if_neg (unwanted_guard (j := 3) (d := 113) (b := true) rfl rfl q113_)]
      exact hK { tmps := a.tmps.setIfInBounds 118 undef, defers := a.defers } w ⟨hS.put hn 8 118 _ rfl (by rw [hsz0]; omega) (fun u h => by injection h with h; injection h with h; exact h.symm), hb⟩
    ·
      refine wpOp_step (o := { dst := some 119, op := Op.move (Operand.tmp 11), type := 23, pos := "more.go:34", after := #[{ on := 8, ground := Ground.guard }], guard := some (8, false) }) rfl ?_
      intro K hK
      have q118_ : a.tmps[118]? = some (undef) := hS.val 8 118 _ (hd 8 (of_decide_eq_true (by kernel_rfl))) rfl rfl
      rw [if_neg (unwanted_undef (j := 8) (d := 118) (b := false) rfl rfl q118_)]
      exact hK { tmps := a.tmps.setIfInBounds 119 undef, defers := a.defers } w ⟨hS.put hn 9 119 _ rfl (by rw [hsz0]; omega) (fun u h => by injection h with h; injection h with h; exact h.symm), hb⟩
    ·
      refine wpOp_step (o := { dst := some 120, op := Op.move (Operand.tmp 11), type := 23, pos := "more.go:34", after := #[{ on := 8, ground := Ground.guard }], guard := some (8, false) }) rfl ?_
      intro K hK
      have q118_ : a.tmps[118]? = some (undef) := hS.val 8 118 _ (hd 8 (of_decide_eq_true (by kernel_rfl))) rfl rfl
      rw [if_neg (unwanted_undef (j := 8) (d := 118) (b := false) rfl rfl q118_)]
      exact hK { tmps := a.tmps.setIfInBounds 120 undef, defers := a.defers } w ⟨hS.put hn 10 120 _ rfl (by rw [hsz0]; omega) (fun u h => by injection h with h; injection h with h; exact h.symm), hb⟩
    ·
      refine wpOp_step (o := { dst := some 121, op := Op.call { callee := Callee.builtin Builtin.len, args := #[Operand.tmp 120], argTypes := #[23] }, type := 3, pos := "more.go:34", after := #[{ on := 10, ground := Ground.data }, { on := 8, ground := Ground.guard }], guard := some (8, false) }) rfl ?_
      intro K hK
      have q118_ : a.tmps[118]? = some (undef) := hS.val 8 118 _ (hd 8 (of_decide_eq_true (by kernel_rfl))) rfl rfl
      rw [if_neg (unwanted_undef (j := 8) (d := 118) (b := false) rfl rfl q118_)]
      exact hK { tmps := a.tmps.setIfInBounds 121 undef, defers := a.defers } w ⟨hS.put hn 11 121 _ rfl (by rw [hsz0]; omega) (fun u h => by injection h with h; injection h with h; exact h.symm), hb⟩
    ·
      refine wpOp_step (o := { dst := some 122, op := Op.binOp BinOp.sub 3 (Operand.tmp 121) (Operand.const (Value.int IntKind.i64 1)) 3, type := 3, pos := "more.go:34", after := #[{ on := 11, ground := Ground.data }, { on := 8, ground := Ground.guard }], guard := some (8, false) }) rfl ?_
      intro K hK
      have q118_ : a.tmps[118]? = some (undef) := hS.val 8 118 _ (hd 8 (of_decide_eq_true (by kernel_rfl))) rfl rfl
      rw [if_neg (unwanted_undef (j := 8) (d := 118) (b := false) rfl rfl q118_)]
      exact hK { tmps := a.tmps.setIfInBounds 122 undef, defers := a.defers } w ⟨hS.put hn 12 122 _ rfl (by rw [hsz0]; omega) (fun u h => by injection h with h; injection h with h; exact h.symm), hb⟩
    ·
      refine wpOp_step (o := { dst := some 123, op := Op.indexAddr 23 (Operand.tmp 119) (Operand.tmp 122), type := 0, pos := "more.go:34", after := #[{ on := 9, ground := Ground.data }, { on := 12, ground := Ground.data }, { on := 8, ground := Ground.guard }], guard := some (8, false) }) rfl ?_
      intro K hK
      have q118_ : a.tmps[118]? = some (undef) := hS.val 8 118 _ (hd 8 (of_decide_eq_true (by kernel_rfl))) rfl rfl
      rw [if_neg (unwanted_undef (j := 8) (d := 118) (b := false) rfl rfl q118_)]
      exact hK { tmps := a.tmps.setIfInBounds 123 undef, defers := a.defers } w ⟨hS.put hn 13 123 _ rfl (by rw [hsz0]; omega) (fun u h => by injection h with h; injection h with h; exact h.symm), hb⟩
    ·
      refine wpOp_step (o := { dst := some 124, op := Op.load 3 (Operand.tmp 123), type := 3, pos := "more.go:34", after := #[{ on := 13, ground := Ground.data }, { on := 8, ground := Ground.guard }], guard := some (8, false) }) rfl ?_
      intro K hK
      have q118_ : a.tmps[118]? = some (undef) := hS.val 8 118 _ (hd 8 (of_decide_eq_true (by kernel_rfl))) rfl rfl
      rw [if_neg (unwanted_undef (j := 8) (d := 118) (b := false) rfl rfl q118_)]
      exact hK { tmps := a.tmps.setIfInBounds 124 undef, defers := a.defers } w ⟨hS.put hn 14 124 _ rfl (by rw [hsz0]; omega) (fun u h => by injection h with h; injection h with h; exact h.symm), hb⟩
    ·
      refine wpOp_step (o := { dst := some 125, op := Op.fieldAddr 26 (Operand.tmp 5) 4, type := 0, pos := "more.go:34", after := #[{ on := 8, ground := Ground.guard }], guard := some (8, false) }) rfl ?_
      intro K hK
      have q118_ : a.tmps[118]? = some (undef) := hS.val 8 118 _ (hd 8 (of_decide_eq_true (by kernel_rfl))) rfl rfl
      rw [if_neg (unwanted_undef (j := 8) (d := 118) (b := false) rfl rfl q118_)]
      exact hK { tmps := a.tmps.setIfInBounds 125 undef, defers := a.defers } w ⟨hS.put hn 15 125 _ rfl (by rw [hsz0]; omega) (fun u h => by injection h with h; injection h with h; exact h.symm), hb⟩
    ·
      refine wpOp_step (o := { dst := some 126, op := Op.load 24 (Operand.tmp 125), type := 24, pos := "more.go:34", after := #[{ on := 15, ground := Ground.data }, { on := 8, ground := Ground.guard }], guard := some (8, false) }) rfl ?_
      intro K hK
      have q118_ : a.tmps[118]? = some (undef) := hS.val 8 118 _ (hd 8 (of_decide_eq_true (by kernel_rfl))) rfl rfl
      rw [if_neg (unwanted_undef (j := 8) (d := 118) (b := false) rfl rfl q118_)]
      exact hK { tmps := a.tmps.setIfInBounds 126 undef, defers := a.defers } w ⟨hS.put hn 16 126 _ rfl (by rw [hsz0]; omega) (fun u h => by injection h with h; injection h with h; exact h.symm), hb⟩
    ·
      refine wpOp_step (o := { dst := some 127, op := Op.call { callee := Callee.builtin Builtin.len, args := #[Operand.tmp 126], argTypes := #[24] }, type := 3, pos := "more.go:34", after := #[{ on := 16, ground := Ground.data }, { on := 8, ground := Ground.guard }], guard := some (8, false) }) rfl ?_
      intro K hK
      have q118_ : a.tmps[118]? = some (undef) := hS.val 8 118 _ (hd 8 (of_decide_eq_true (by kernel_rfl))) rfl rfl
      rw [if_neg (unwanted_undef (j := 8) (d := 118) (b := false) rfl rfl q118_)]
      exact hK { tmps := a.tmps.setIfInBounds 127 undef, defers := a.defers } w ⟨hS.put hn 17 127 _ rfl (by rw [hsz0]; omega) (fun u h => by injection h with h; injection h with h; exact h.symm), hb⟩
    ·
      refine wpOp_step (o := { dst := some 128, op := Op.binOp BinOp.geq 3 (Operand.tmp 124) (Operand.tmp 127) 3, type := 4, pos := "more.go:34", after := #[{ on := 14, ground := Ground.data }, { on := 17, ground := Ground.data }, { on := 8, ground := Ground.guard }], guard := some (8, false) }) rfl ?_
      intro K hK
      have q118_ : a.tmps[118]? = some (undef) := hS.val 8 118 _ (hd 8 (of_decide_eq_true (by kernel_rfl))) rfl rfl
      rw [if_neg (unwanted_undef (j := 8) (d := 118) (b := false) rfl rfl q118_)]
      exact hK { tmps := a.tmps.setIfInBounds 128 undef, defers := a.defers } w ⟨hS.put hn 18 128 _ rfl (by rw [hsz0]; omega) (fun u h => by injection h with h; injection h with h; exact h.symm), hb⟩
    ·
      refine wpOp_step (o := { dst := some 129, op := Op.pick (Operand.tmp 118) (Operand.const (Value.bool true)) (Operand.tmp 128), type := 4, pos := "more.go:34", after := #[{ on := 8, ground := Ground.data }, { on := 18, ground := Ground.data }, { on := 3, ground := Ground.guard }], guard := some (3, true) }) rfl ?_
      intro K hK
      have q113_ : a.tmps[113]? = some (.bool false) := hS.val 3 113 _ (hd 3 (of_decide_eq_true (by kernel_rfl))) rfl rfl
      rw [if_neg (unwanted_guard (j := 3) (d := 113) (b := true) rfl rfl q113_)]
      exact hK { tmps := a.tmps.setIfInBounds 129 undef, defers := a.defers } w ⟨hS.put hn 19 129 _ rfl (by rw [hsz0]; omega) (fun u h => by injection h with h; injection h with h; exact h.symm), hb⟩
    ·
      refine wpOp_step (o := { dst := some 130, op := Op.pick (Operand.tmp 113) (Operand.tmp 129) (Operand.const (Value.bool false)), type := 4, pos := "more.go:34", after := #[{ on := 3, ground := Ground.data }, { on := 19, ground := Ground.data }], guard := none }) rfl ?_
      intro K hK
      have q113_ : a.tmps[113]? = some (.bool false) := hS.val 3 113 _ (hd 3 (of_decide_eq_true (by kernel_rfl))) rfl rfl
      have q129_ : a.tmps[129]? = some (undef) := hS.val 19 129 _ (hd 19 (of_decide_eq_true (by kernel_rfl))) rfl rfl
      go_simp
      exact hK _ _ ⟨hS.put hn 20 130 _ rfl (by rw [hsz0]; omega) (fun u h => by injection h with h; injection h with h; exact h.symm), hb⟩
  · intro listed a w hall ⟨hS, hb⟩
    have hf := hS.frame [(110, .slice ba 0 bc), (111, .int .i64 0), (112, .bool false), (113, .bool false), (114, undef), (115, undef), (116, undef), (117, undef), (118, undef), (119, undef), (120, undef), (121, undef), (122, undef), (123, undef), (124, undef), (125, undef), (126, undef), (127, undef), (128, undef), (129, undef), (130, .bool false)] rfl (of_decide_eq_true (by kernel_rfl)) (by
      simp only [List.map_cons, List.map_nil, List.all_cons, List.all_nil, hsz0]; rfl) (by
      intro p hp
      simp only [List.mem_cons, List.not_mem_nil, or_false] at hp
      rcases hp with rfl | rfl | rfl | rfl | rfl | rfl | rfl | rfl | rfl | rfl | rfl | rfl | rfl | rfl | rfl | rfl | rfl | rfl | rfl | rfl | rfl
      · exact hS.val 0 110 _ (hall 0 (by decide)) rfl rfl
      · exact hS.val 1 111 _ (hall 1 (by decide)) rfl rfl
      · exact hS.val 2 112 _ (hall 2 (by decide)) rfl rfl
      · exact hS.val 3 113 _ (hall 3 (by decide)) rfl rfl
      · exact hS.val 4 114 _ (hall 4 (by decide)) rfl rfl
      · exact hS.val 5 115 _ (hall 5 (by decide)) rfl rfl
      · exact hS.val 6 116 _ (hall 6 (by decide)) rfl rfl
      · exact hS.val 7 117 _ (hall 7 (by decide)) rfl rfl
      · exact hS.val 8 118 _ (hall 8 (by decide)) rfl rfl
      · exact hS.val 9 119 _ (hall 9 (by decide)) rfl rfl
      · exact hS.val 10 120 _ (hall 10 (by decide)) rfl rfl
      · exact hS.val 11 121 _ (hall 11 (by decide)) rfl rfl
      · exact hS.val 12 122 _ (hall 12 (by decide)) rfl rfl
      · exact hS.val 13 123 _ (hall 13 (by decide)) rfl rfl
      · exact hS.val 14 124 _ (hall 14 (by decide)) rfl rfl
      · exact hS.val 15 125 _ (hall 15 (by decide)) rfl rfl
      · exact hS.val 16 126 _ (hall 16 (by decide)) rfl rfl
      · exact hS.val 17 127 _ (hall 17 (by decide)) rfl rfl
      · exact hS.val 18 128 _ (hall 18 (by decide)) rfl rfl
      · exact hS.val 19 129 _ (hall 19 (by decide)) rfl rfl
      · exact hS.val 20 130 _ (hall 20 (by decide)) rfl rfl)
    rw [hf]
    exact hQ w  hb
set_option maxHeartbeats 16000000 in
theorem last_region {Q : Exit → Act → World → Prop} (a0 : Act) (W : World) (hsz0 : a0.tmps.size = 144) (vb bb bo m m1 : Nat) (a1 a2 a3 : Option Addr) (n1 c1 n2 c2 n3 c3 bc : Nat) (gap rad y z : Int) (hx : Box W vb 26 #[.slice a1 n1 c1, .int .i64 gap, .int .i64 rad, .slice a2 n2 c2, .slice a3 n3 c3])
    (hm : 0 < m) (hm1 : IntKind.i64.wrap ((m : Int) - 1) = (m1 : Int)) (hml : (m1 : Int) < (m : Int)) (hbl : bb < W.heap.size) (hy : W.cell? ⟨bb, bo, none⟩ = some (.int .i64 y)) (hz : W.cell? ⟨bb, bo + m1, none⟩ = some (.int .i64 z)) (hyd : decide (y < -1) = false) (hzd : decide ((n3 : Int) ≤ z) = false)
    (h5_ : a0.tmps[5]? = some (.pointer (some ⟨vb, 0, none⟩))) (h11_ : a0.tmps[11]? = some (.slice (some ⟨bb, bo, none⟩) m bc))
    (hQ : ∀ w' , Below W.heap.size W w' → Q .normal { tmps := putAll a0.tmps [(110, .slice (some ⟨bb, bo, none⟩) m bc), (111, .int .i64 m), (112, .bool true), (113, .bool true), (114, .slice (some ⟨bb, bo, none⟩) m bc), (115, .pointer (some ⟨bb, bo, none⟩)), (116, .int .i64 y), (117, .bool false), (118, .bool false), (119, .slice (some ⟨bb, bo, none⟩) m bc), (120, .slice (some ⟨bb, bo, none⟩) m bc), (121, .int .i64 m), (122, .int .i64 (m1 : Int)), (123, .pointer (some ⟨bb, bo + m1, none⟩)), (124, .int .i64 z), (125, .pointer (some ⟨vb, 4, none⟩)), (126, .slice a3 n3 c3), (127, .int .i64 n3), (128, .bool false), (129, .bool false), (130, .bool false)], defers := a0.defers } w') :
    (Code.region 23 #[{ dst := some 110, op := Op.move (Operand.tmp 11), type := 23, pos := "more.go:34", after := #[], guard := none }, { dst := some 111, op := Op.call { callee := Callee.builtin Builtin.len, args := #[Operand.tmp 110], argTypes := #[23] }, type := 3, pos := "more.go:34", after := #[{ on := 0, ground := Ground.data }], guard := none }, { dst := some 112, op := Op.binOp BinOp.gtr 3 (Operand.tmp 111) (Operand.const (Value.int IntKind.i64 0)) 3, type := 4, pos := "more.go:34", after := #[{ on := 1, ground := Ground.data }], guard := none }, { dst := some 113, op := Op.move (Operand.tmp 112), type := 4, pos := "more.go:34", after := #[{ on := 2, ground := Ground.data }], guard := none }, { dst := some 114, op := Op.move (Operand.tmp 11), type := 23, pos := "more.go:34", after := #[{ on := 3, ground := Ground.guard }], guard := some (3, true) }, { dst := some 115, op := Op.indexAddr 23 (Operand.tmp 114) (Operand.const (Value.int IntKind.i64 0)), type := 0, pos := "more.go:34", after := #[{ on := 4, ground := Ground.data }, { on := 3, ground := Ground.guard }], guard := some (3, true) }, { dst := some 116, op := Op.load 3 (Operand.tmp 115), type := 3, pos := "more.go:34", after := #[{ on := 5, ground := Ground.data }, { on := 3, ground := Ground.guard }], guard := some (3, true) }, { dst := some 117, op := Op.binOp BinOp.lss 3 (Operand.tmp 116) (Operand.const (Value.int IntKind.i64 (-1))) 3, type := 4, pos := "more.go:34", after := #[{ on := 6, ground := Ground.data }, { on := 3, ground := Ground.guard }], guard := some (3, true) }, { dst := some 118, op := Op.move (Operand.tmp 117), type := 4, pos := "more.go:34", after := #[{ on := 7, ground := Ground.data }, { on := 3, ground := Ground.chain }, { on := 3, ground := Ground.guard }], guard := some (3, true) }, { dst := some 119, op := Op.move (Operand.tmp 11), type := 23, pos := "more.go:34", after := #[{ on := 8, ground := Ground.guard }], guard := some (8, false) }, { dst := some 120, op := Op.move (Operand.tmp 11), type := 23, pos := "more.go:34", after := #[{ on := 8, ground := Ground.guard }], guard := some (8, false) }, { dst := some 121, op := Op.call { callee := Callee.builtin Builtin.len, args := #[Operand.tmp 120], argTypes := #[23] }, type := 3, pos := "more.go:34", after := #[{ on := 10, ground := Ground.data }, { on := 8, ground := Ground.guard }], guard := some (8, false) }, { dst := some 122, op := Op.binOp BinOp.sub 3 (Operand.tmp 121) (Operand.const (Value.int IntKind.i64 1)) 3, type := 3, pos := "more.go:34", after := #[{ on := 11, ground := Ground.data }, { on := 8, ground := Ground.guard }], guard := some (8, false) }, { dst := some 123, op := Op.indexAddr 23 (Operand.tmp 119) (Operand.tmp 122), type := 0, pos := "more.go:34", after := #[{ on := 9, ground := Ground.data }, { on := 12, ground := Ground.data }, { on := 8, ground := Ground.guard }], guard := some (8, false) }, { dst := some 124, op := Op.load 3 (Operand.tmp 123), type := 3, pos := "more.go:34", after := #[{ on := 13, ground := Ground.data }, { on := 8, ground := Ground.guard }], guard := some (8, false) }, { dst := some 125, op := Op.fieldAddr 26 (Operand.tmp 5) 4, type := 0, pos := "more.go:34", after := #[{ on := 8, ground := Ground.guard }], guard := some (8, false) }, { dst := some 126, op := Op.load 24 (Operand.tmp 125), type := 24, pos := "more.go:34", after := #[{ on := 15, ground := Ground.data }, { on := 8, ground := Ground.guard }], guard := some (8, false) }, { dst := some 127, op := Op.call { callee := Callee.builtin Builtin.len, args := #[Operand.tmp 126], argTypes := #[24] }, type := 3, pos := "more.go:34", after := #[{ on := 16, ground := Ground.data }, { on := 8, ground := Ground.guard }], guard := some (8, false) }, { dst := some 128, op := Op.binOp BinOp.geq 3 (Operand.tmp 124) (Operand.tmp 127) 3, type := 4, pos := "more.go:34", after := #[{ on := 14, ground := Ground.data }, { on := 17, ground := Ground.data }, { on := 8, ground := Ground.guard }], guard := some (8, false) }, { dst := some 129, op := Op.pick (Operand.tmp 118) (Operand.const (Value.bool true)) (Operand.tmp 128), type := 4, pos := "more.go:34", after := #[{ on := 8, ground := Ground.data }, { on := 18, ground := Ground.data }, { on := 3, ground := Ground.guard }], guard := some (3, true) }, { dst := some 130, op := Op.pick (Operand.tmp 113) (Operand.tmp 129) (Operand.const (Value.bool false)), type := 4, pos := "more.go:34", after := #[{ on := 3, ground := Ground.data }, { on := 19, ground := Ground.data }], guard := none }] true).wp Try.prog Q a0 W := by
  have hn : ([some 110, some 111, some 112, some 113, some 114, some 115, some 116, some 117, some 118, some 119, some 120, some 121, some 122, some 123, some 124, some 125, some 126, some 127, some 128, some 129, some 130] : List (Option Nat)).Pairwise (fun x y => x = none ∨ x ≠ y) := of_decide_eq_true (by kernel_rfl)
  have hmz : (0 : Int) < (m : Int) := by omega
  have hmd : decide ((0 : Int) < (m : Int)) = true := decide_eq_true hmz
  have hy2 : ¬ y < -1 := of_decide_eq_false hyd
  have hz2 : ¬ (n3 : Int) ≤ z := of_decide_eq_false hzd
  refine wp_region_inv mixed (fun listed a w => Slots a0 [some 110, some 111, some 112, some 113, some 114, some 115, some 116, some 117, some 118, some 119, some 120, some 121, some 122, some 123, some 124, some 125, some 126, some 127, some 128, some 129, some 130] [some (.slice (some ⟨bb, bo, none⟩) m bc), some (.int .i64 m), some (.bool true), some (.bool true), some (.slice (some ⟨bb, bo, none⟩) m bc), some (.pointer (some ⟨bb, bo, none⟩)), some (.int .i64 y), some (.bool false), some (.bool false), some (.slice (some ⟨bb, bo, none⟩) m bc), some (.slice (some ⟨bb, bo, none⟩) m bc), some (.int .i64 m), some (.int .i64 (m1 : Int)), some (.pointer (some ⟨bb, bo + m1, none⟩)), some (.int .i64 z), some (.pointer (some ⟨vb, 4, none⟩)), some (.slice a3 n3 c3), some (.int .i64 n3), some (.bool false), some (.bool false), some (.bool false)] listed a ∧ Below W.heap.size W w) (by kernel_rfl) ?_ ?_ ?_
  · exact ⟨Slots.start _ _ _ _, (Below.refl _ W).drew⟩
  · intro listed a w i' hsl hilt hl hd hcl ⟨hS, hb⟩
    have hsz : Hid (a.tmps.size = 144) := hS.size.trans hsz0
    have hls : i' < listed.size := by rw [hsl]; exact hilt
    have hcase : i' = 0 ∨ i' = 1 ∨ i' = 2 ∨ i' = 3 ∨ i' = 4 ∨ i' = 5 ∨ i' = 6 ∨ i' = 7 ∨ i' = 8 ∨ i' = 9 ∨ i' = 10 ∨ i' = 11 ∨ i' = 12 ∨ i' = 13 ∨ i' = 14 ∨ i' = 15 ∨ i' = 16 ∨ i' = 17 ∨ i' = 18 ∨ i' = 19 ∨ i' = 20 := by
      have : i' < 21 := hilt
      omega
    rcases hcase with rfl | rfl | rfl | rfl | rfl | rfl | rfl | rfl | rfl | rfl | rfl | rfl | rfl | rfl | rfl | rfl | rfl | rfl | rfl | rfl | rfl
    ·
      refine wpOp_step (o := { dst := some 110, op := Op.move (Operand.tmp 11), type := 23, pos := "more.go:34", after := #[], guard := none }) rfl ?_
      intro K hK
      have q11_ : a.tmps[11]? = some (.slice (some ⟨bb, bo, none⟩) m bc) := (hS.keep 11 (of_decide_eq_true (by kernel_rfl))).trans h11_
      go_simp
      exact hK _ _ ⟨hS.put hn 0 110 _ rfl (by rw [hsz0]; omega) (fun u h => by injection h with h; injection h with h; exact h.symm), hb⟩
    ·
      refine wpOp_step (o := { dst := some 111, op := Op.call { callee := Callee.builtin Builtin.len, args := #[Operand.tmp 110], argTypes := #[23] }, type := 3, pos := "more.go:34", after := #[{ on := 0, ground := Ground.data }], guard := none }) rfl ?_
      intro K hK
      have q110_ : a.tmps[110]? = some (.slice (some ⟨bb, bo, none⟩) m bc) := hS.val 0 110 _ (hd 0 (of_decide_eq_true (by kernel_rfl))) rfl rfl
      go_simp
      exact hK _ _ ⟨hS.put hn 1 111 _ rfl (by rw [hsz0]; omega) (fun u h => by injection h with h; injection h with h; exact h.symm), hb⟩
    ·
      refine wpOp_step (o := { dst := some 112, op := Op.binOp BinOp.gtr 3 (Operand.tmp 111) (Operand.const (Value.int IntKind.i64 0)) 3, type := 4, pos := "more.go:34", after := #[{ on := 1, ground := Ground.data }], guard := none }) rfl ?_
      intro K hK
      have q111_ : a.tmps[111]? = some (.int .i64 m) := hS.val 1 111 _ (hd 1 (of_decide_eq_true (by kernel_rfl))) rfl rfl
      go_simp
      exact hK _ _ ⟨hS.put hn 2 112 _ rfl (by rw [hsz0]; omega) (fun u h => by injection h with h; injection h with h; exact h.symm), hb⟩
    ·
      refine wpOp_step (o := { dst := some 113, op := Op.move (Operand.tmp 112), type := 4, pos := "more.go:34", after := #[{ on := 2, ground := Ground.data }], guard := none }) rfl ?_
      intro K hK
      have q112_ : a.tmps[112]? = some (.bool true) := hS.val 2 112 _ (hd 2 (of_decide_eq_true (by kernel_rfl))) rfl rfl
      go_simp
      exact hK _ _ ⟨hS.put hn 3 113 _ rfl (by rw [hsz0]; omega) (fun u h => by injection h with h; injection h with h; exact h.symm), hb⟩
    ·
      refine wpOp_step (o := { dst := some 114, op := Op.move (Operand.tmp 11), type := 23, pos := "more.go:34", after := #[{ on := 3, ground := Ground.guard }], guard := some (3, true) }) rfl ?_
      intro K hK
      have q113_ : a.tmps[113]? = some (.bool true) := hS.val 3 113 _ (hd 3 (of_decide_eq_true (by kernel_rfl))) rfl rfl
      have q11_ : a.tmps[11]? = some (.slice (some ⟨bb, bo, none⟩) m bc) := (hS.keep 11 (of_decide_eq_true (by kernel_rfl))).trans h11_
      rw [if_pos (wanted_guard (j := 3) (d := 113) (b := true) rfl rfl q113_)]
      go_simp
      exact hK _ _ ⟨hS.put hn 4 114 _ rfl (by rw [hsz0]; omega) (fun u h => by injection h with h; injection h with h; exact h.symm), hb⟩
    ·
      refine wpOp_step (o := { dst := some 115, op := Op.indexAddr 23 (Operand.tmp 114) (Operand.const (Value.int IntKind.i64 0)), type := 0, pos := "more.go:34", after := #[{ on := 4, ground := Ground.data }, { on := 3, ground := Ground.guard }], guard := some (3, true) }) rfl ?_
      intro K hK
      have q113_ : a.tmps[113]? = some (.bool true) := hS.val 3 113 _ (hd 3 (of_decide_eq_true (by kernel_rfl))) rfl rfl
      have q114_ : a.tmps[114]? = some (.slice (some ⟨bb, bo, none⟩) m bc) := hS.val 4 114 _ (hd 4 (of_decide_eq_true (by kernel_rfl))) rfl rfl
      rw [if_pos (wanted_guard (j := 3) (d := 113) (b := true) rfl rfl q113_)]
      go_simp
      exact hK _ _ ⟨hS.put hn 5 115 _ rfl (by rw [hsz0]; omega) (fun u h => by injection h with h; injection h with h; exact h.symm), hb⟩
    ·
      refine wpOp_step (o := { dst := some 116, op := Op.load 3 (Operand.tmp 115), type := 3, pos := "more.go:34", after := #[{ on := 5, ground := Ground.data }, { on := 3, ground := Ground.guard }], guard := some (3, true) }) rfl ?_
      intro K hK
      have q113_ : a.tmps[113]? = some (.bool true) := hS.val 3 113 _ (hd 3 (of_decide_eq_true (by kernel_rfl))) rfl rfl
      have q115_ : a.tmps[115]? = some (.pointer (some ⟨bb, bo, none⟩)) := hS.val 5 115 _ (hd 5 (of_decide_eq_true (by kernel_rfl))) rfl rfl
      rw [if_pos (wanted_guard (j := 3) (d := 113) (b := true) rfl rfl q113_)]
      have q0 := (hb.cell (p := ⟨bb, bo, none⟩) hbl).trans hy
      go_simp
      exact hK _ _ ⟨hS.put hn 6 116 _ rfl (by rw [hsz0]; omega) (fun u h => by injection h with h; injection h with h; exact h.symm), hb⟩
    ·
      refine wpOp_step (o := { dst := some 117, op := Op.binOp BinOp.lss 3 (Operand.tmp 116) (Operand.const (Value.int IntKind.i64 (-1))) 3, type := 4, pos := "more.go:34", after := #[{ on := 6, ground := Ground.data }, { on := 3, ground := Ground.guard }], guard := some (3, true) }) rfl ?_
      intro K hK
      have q113_ : a.tmps[113]? = some (.bool true) := hS.val 3 113 _ (hd 3 (of_decide_eq_true (by kernel_rfl))) rfl rfl
      have q116_ : a.tmps[116]? = some (.int .i64 y) := hS.val 6 116 _ (hd 6 (of_decide_eq_true (by kernel_rfl))) rfl rfl
      rw [if_pos (wanted_guard (j := 3) (d := 113) (b := true) rfl rfl q113_)]
      go_simp
      exact hK _ _ ⟨hS.put hn 7 117 _ rfl (by rw [hsz0]; omega) (fun u h => by injection h with h; injection h with h; exact h.symm), hb⟩
    ·
      refine wpOp_step (o := { dst := some 118, op := Op.move (Operand.tmp 117), type := 4, pos := "more.go:34", after := #[{ on := 7, ground := Ground.data }, { on := 3, ground := Ground.chain }, { on := 3, ground := Ground.guard }], guard := some (3, true) }) rfl ?_
      intro K hK
      have q113_ : a.tmps[113]? = some (.bool true) := hS.val 3 113 _ (hd 3 (of_decide_eq_true (by kernel_rfl))) rfl rfl
      have q117_ : a.tmps[117]? = some (.bool false) := hS.val 7 117 _ (hd 7 (of_decide_eq_true (by kernel_rfl))) rfl rfl
      rw [if_pos (wanted_guard (j := 3) (d := 113) (b := true) rfl rfl q113_)]
      go_simp
      exact hK _ _ ⟨hS.put hn 8 118 _ rfl (by rw [hsz0]; omega) (fun u h => by injection h with h; injection h with h; exact h.symm), hb⟩
    ·
      refine wpOp_step (o := { dst := some 119, op := Op.move (Operand.tmp 11), type := 23, pos := "more.go:34", after := #[{ on := 8, ground := Ground.guard }], guard := some (8, false) }) rfl ?_
      intro K hK
      have q118_ : a.tmps[118]? = some (.bool false) := hS.val 8 118 _ (hd 8 (of_decide_eq_true (by kernel_rfl))) rfl rfl
      have q11_ : a.tmps[11]? = some (.slice (some ⟨bb, bo, none⟩) m bc) := (hS.keep 11 (of_decide_eq_true (by kernel_rfl))).trans h11_
      rw [if_pos (wanted_guard (j := 8) (d := 118) (b := false) rfl rfl q118_)]
      go_simp
      exact hK _ _ ⟨hS.put hn 9 119 _ rfl (by rw [hsz0]; omega) (fun u h => by injection h with h; injection h with h; exact h.symm), hb⟩
    ·
      refine wpOp_step (o := { dst := some 120, op := Op.move (Operand.tmp 11), type := 23, pos := "more.go:34", after := #[{ on := 8, ground := Ground.guard }], guard := some (8, false) }) rfl ?_
      intro K hK
      have q118_ : a.tmps[118]? = some (.bool false) := hS.val 8 118 _ (hd 8 (of_decide_eq_true (by kernel_rfl))) rfl rfl
      have q11_ : a.tmps[11]? = some (.slice (some ⟨bb, bo, none⟩) m bc) := (hS.keep 11 (of_decide_eq_true (by kernel_rfl))).trans h11_
      rw [if_pos (wanted_guard (j := 8) (d := 118) (b := false) rfl rfl q118_)]
      go_simp
      exact hK _ _ ⟨hS.put hn 10 120 _ rfl (by rw [hsz0]; omega) (fun u h => by injection h with h; injection h with h; exact h.symm), hb⟩
    ·
      refine wpOp_step (o := { dst := some 121, op := Op.call { callee := Callee.builtin Builtin.len, args := #[Operand.tmp 120], argTypes := #[23] }, type := 3, pos := "more.go:34", after := #[{ on := 10, ground := Ground.data }, { on := 8, ground := Ground.guard }], guard := some (8, false) }) rfl ?_
      intro K hK
      have q118_ : a.tmps[118]? = some (.bool false) := hS.val 8 118 _ (hd 8 (of_decide_eq_true (by kernel_rfl))) rfl rfl
      have q120_ : a.tmps[120]? = some (.slice (some ⟨bb, bo, none⟩) m bc) := hS.val 10 120 _ (hd 10 (of_decide_eq_true (by kernel_rfl))) rfl rfl
      rw [if_pos (wanted_guard (j := 8) (d := 118) (b := false) rfl rfl q118_)]
      go_simp
      exact hK _ _ ⟨hS.put hn 11 121 _ rfl (by rw [hsz0]; omega) (fun u h => by injection h with h; injection h with h; exact h.symm), hb⟩
    ·
      refine wpOp_step (o := { dst := some 122, op := Op.binOp BinOp.sub 3 (Operand.tmp 121) (Operand.const (Value.int IntKind.i64 1)) 3, type := 3, pos := "more.go:34", after := #[{ on := 11, ground := Ground.data }, { on := 8, ground := Ground.guard }], guard := some (8, false) }) rfl ?_
      intro K hK
      have q118_ : a.tmps[118]? = some (.bool false) := hS.val 8 118 _ (hd 8 (of_decide_eq_true (by kernel_rfl))) rfl rfl
      have q121_ : a.tmps[121]? = some (.int .i64 m) := hS.val 11 121 _ (hd 11 (of_decide_eq_true (by kernel_rfl))) rfl rfl
      rw [if_pos (wanted_guard (j := 8) (d := 118) (b := false) rfl rfl q118_)]
      go_simp
      exact hK _ _ ⟨hS.put hn 12 122 _ rfl (by rw [hsz0]; omega) (fun u h => by injection h with h; injection h with h; exact h.symm), hb⟩
    ·
      refine wpOp_step (o := { dst := some 123, op := Op.indexAddr 23 (Operand.tmp 119) (Operand.tmp 122), type := 0, pos := "more.go:34", after := #[{ on := 9, ground := Ground.data }, { on := 12, ground := Ground.data }, { on := 8, ground := Ground.guard }], guard := some (8, false) }) rfl ?_
      intro K hK
      have q118_ : a.tmps[118]? = some (.bool false) := hS.val 8 118 _ (hd 8 (of_decide_eq_true (by kernel_rfl))) rfl rfl
      have q119_ : a.tmps[119]? = some (.slice (some ⟨bb, bo, none⟩) m bc) := hS.val 9 119 _ (hd 9 (of_decide_eq_true (by kernel_rfl))) rfl rfl
      have q122_ : a.tmps[122]? = some (.int .i64 (m1 : Int)) := hS.val 12 122 _ (hd 12 (of_decide_eq_true (by kernel_rfl))) rfl rfl
      rw [if_pos (wanted_guard (j := 8) (d := 118) (b := false) rfl rfl q118_)]
      go_simp
      exact hK _ _ ⟨hS.put hn 13 123 _ rfl (by rw [hsz0]; omega) (fun u h => by injection h with h; injection h with h; exact h.symm), hb⟩
    ·
      refine wpOp_step (o := { dst := some 124, op := Op.load 3 (Operand.tmp 123), type := 3, pos := "more.go:34", after := #[{ on := 13, ground := Ground.data }, { on := 8, ground := Ground.guard }], guard := some (8, false) }) rfl ?_
      intro K hK
      have q118_ : a.tmps[118]? = some (.bool false) := hS.val 8 118 _ (hd 8 (of_decide_eq_true (by kernel_rfl))) rfl rfl
      have q123_ : a.tmps[123]? = some (.pointer (some ⟨bb, bo + m1, none⟩)) := hS.val 13 123 _ (hd 13 (of_decide_eq_true (by kernel_rfl))) rfl rfl
      rw [if_pos (wanted_guard (j := 8) (d := 118) (b := false) rfl rfl q118_)]
      have q1 := (hb.cell (p := ⟨bb, bo + m1, none⟩) hbl).trans hz
      go_simp
      exact hK _ _ ⟨hS.put hn 14 124 _ rfl (by rw [hsz0]; omega) (fun u h => by injection h with h; injection h with h; exact h.symm), hb⟩
    ·
      refine wpOp_step (o := { dst := some 125, op := Op.fieldAddr 26 (Operand.tmp 5) 4, type := 0, pos := "more.go:34", after := #[{ on := 8, ground := Ground.guard }], guard := some (8, false) }) rfl ?_
      intro K hK
      have q118_ : a.tmps[118]? = some (.bool false) := hS.val 8 118 _ (hd 8 (of_decide_eq_true (by kernel_rfl))) rfl rfl
      have q5_ : a.tmps[5]? = some (.pointer (some ⟨vb, 0, none⟩)) := (hS.keep 5 (of_decide_eq_true (by kernel_rfl))).trans h5_
      rw [if_pos (wanted_guard (j := 8) (d := 118) (b := false) rfl rfl q118_)]
      go_simp
      exact hK _ _ ⟨hS.put hn 15 125 _ rfl (by rw [hsz0]; omega) (fun u h => by injection h with h; injection h with h; exact h.symm), hb⟩
    ·
      refine wpOp_step (o := { dst := some 126, op := Op.load 24 (Operand.tmp 125), type := 24, pos := "more.go:34", after := #[{ on := 15, ground := Ground.data }, { on := 8, ground := Ground.guard }], guard := some (8, false) }) rfl ?_
      intro K hK
      have q118_ : a.tmps[118]? = some (.bool false) := hS.val 8 118 _ (hd 8 (of_decide_eq_true (by kernel_rfl))) rfl rfl
      have q125_ : a.tmps[125]? = some (.pointer (some ⟨vb, 4, none⟩)) := hS.val 15 125 _ (hd 15 (of_decide_eq_true (by kernel_rfl))) rfl rfl
      rw [if_pos (wanted_guard (j := 8) (d := 118) (b := false) rfl rfl q118_)]
      have m0 := (hx.next hb).cell 0 _ rfl
      have m1 := (hx.next hb).cell 1 _ rfl
      have m2 := (hx.next hb).cell 2 _ rfl
      have m3 := (hx.next hb).cell 3 _ rfl
      have m4 := (hx.next hb).cell 4 _ rfl
      go_simp
      exact hK _ _ ⟨hS.put hn 16 126 _ rfl (by rw [hsz0]; omega) (fun u h => by injection h with h; injection h with h; exact h.symm), hb⟩
    ·
      refine wpOp_step (o := { dst := some 127, op := Op.call { callee := Callee.builtin Builtin.len, args := #[Operand.tmp 126], argTypes := #[24] }, type := 3, pos := "more.go:34", after := #[{ on := 16, ground := Ground.data }, { on := 8, ground := Ground.guard }], guard := some (8, false) }) rfl ?_
      intro K hK
      have q118_ : a.tmps[118]? = some (.bool false) := hS.val 8 118 _ (hd 8 (of_decide_eq_true (by kernel_rfl))) rfl rfl
      have q126_ : a.tmps[126]? = some (.slice a3 n3 c3) := hS.val 16 126 _ (hd 16 (of_decide_eq_true (by kernel_rfl))) rfl rfl
      rw [if_pos (wanted_guard (j := 8) (d := 118) (b := false) rfl rfl q118_)]
      go_simp
      exact hK _ _ ⟨hS.put hn 17 127 _ rfl (by rw [hsz0]; omega) (fun u h => by injection h with h; injection h with h; exact h.symm), hb⟩
    ·
      refine wpOp_step (o := { dst := some 128, op := Op.binOp BinOp.geq 3 (Operand.tmp 124) (Operand.tmp 127) 3, type := 4, pos := "more.go:34", after := #[{ on := 14, ground := Ground.data }, { on := 17, ground := Ground.data }, { on := 8, ground := Ground.guard }], guard := some (8, false) }) rfl ?_
      intro K hK
      have q118_ : a.tmps[118]? = some (.bool false) := hS.val 8 118 _ (hd 8 (of_decide_eq_true (by kernel_rfl))) rfl rfl
      have q124_ : a.tmps[124]? = some (.int .i64 z) := hS.val 14 124 _ (hd 14 (of_decide_eq_true (by kernel_rfl))) rfl rfl
      have q127_ : a.tmps[127]? = some (.int .i64 n3) := hS.val 17 127 _ (hd 17 (of_decide_eq_true (by kernel_rfl))) rfl rfl
      rw [if_pos (wanted_guard (j := 8) (d := 118) (b := false) rfl rfl q118_)]
      go_simp
      exact hK _ _ ⟨hS.put hn 18 128 _ rfl (by rw [hsz0]; omega) (fun u h => by injection h with h; injection h with h; exact h.symm), hb⟩
    ·
      refine wpOp_step (o := { dst := some 129, op := Op.pick (Operand.tmp 118) (Operand.const (Value.bool true)) (Operand.tmp 128), type := 4, pos := "more.go:34", after := #[{ on := 8, ground := Ground.data }, { on := 18, ground := Ground.data }, { on := 3, ground := Ground.guard }], guard := some (3, true) }) rfl ?_
      intro K hK
      have q113_ : a.tmps[113]? = some (.bool true) := hS.val 3 113 _ (hd 3 (of_decide_eq_true (by kernel_rfl))) rfl rfl
      have q118_ : a.tmps[118]? = some (.bool false) := hS.val 8 118 _ (hd 8 (of_decide_eq_true (by kernel_rfl))) rfl rfl
      have q128_ : a.tmps[128]? = some (.bool false) := hS.val 18 128 _ (hd 18 (of_decide_eq_true (by kernel_rfl))) rfl rfl
      rw [if_pos (wanted_guard (j := 3) (d := 113) (b := true) rfl rfl q113_)]
      go_simp
      exact hK _ _ ⟨hS.put hn 19 129 _ rfl (by rw [hsz0]; omega) (fun u h => by injection h with h; injection h with h; exact h.symm), hb⟩
    ·
      refine wpOp_step (o := { dst := some 130, op := Op.pick (Operand.tmp 113) (Operand.tmp 129) (Operand.const (Value.bool false)), type := 4, pos := "more.go:34", after := #[{ on := 3, ground := Ground.data }, { on := 19, ground := Ground.data }], guard := none }) rfl ?_
      intro K hK
      have q113_ : a.tmps[113]? = some (.bool true) := hS.val 3 113 _ (hd 3 (of_decide_eq_true (by kernel_rfl))) rfl rfl
      have q129_ : a.tmps[129]? = some (.bool false) := hS.val 19 129 _ (hd 19 (of_decide_eq_true (by kernel_rfl))) rfl rfl
      go_simp
      exact hK _ _ ⟨hS.put hn 20 130 _ rfl (by rw [hsz0]; omega) (fun u h => by injection h with h; injection h with h; exact h.symm), hb⟩
  · intro listed a w hall ⟨hS, hb⟩
    have hf := hS.frame [(110, .slice (some ⟨bb, bo, none⟩) m bc), (111, .int .i64 m), (112, .bool true), (113, .bool true), (114, .slice (some ⟨bb, bo, none⟩) m bc), (115, .pointer (some ⟨bb, bo, none⟩)), (116, .int .i64 y), (117, .bool false), (118, .bool false), (119, .slice (some ⟨bb, bo, none⟩) m bc), (120, .slice (some ⟨bb, bo, none⟩) m bc), (121, .int .i64 m), (122, .int .i64 (m1 : Int)), (123, .pointer (some ⟨bb, bo + m1, none⟩)), (124, .int .i64 z), (125, .pointer (some ⟨vb, 4, none⟩)), (126, .slice a3 n3 c3), (127, .int .i64 n3), (128, .bool false), (129, .bool false), (130, .bool false)] rfl (of_decide_eq_true (by kernel_rfl)) (by
      simp only [List.map_cons, List.map_nil, List.all_cons, List.all_nil, hsz0]; rfl) (by
      intro p hp
      simp only [List.mem_cons, List.not_mem_nil, or_false] at hp
      rcases hp with rfl | rfl | rfl | rfl | rfl | rfl | rfl | rfl | rfl | rfl | rfl | rfl | rfl | rfl | rfl | rfl | rfl | rfl | rfl | rfl | rfl
      · exact hS.val 0 110 _ (hall 0 (by decide)) rfl rfl
      · exact hS.val 1 111 _ (hall 1 (by decide)) rfl rfl
      · exact hS.val 2 112 _ (hall 2 (by decide)) rfl rfl
      · exact hS.val 3 113 _ (hall 3 (by decide)) rfl rfl
      · exact hS.val 4 114 _ (hall 4 (by decide)) rfl rfl
      · exact hS.val 5 115 _ (hall 5 (by decide)) rfl rfl
      · exact hS.val 6 116 _ (hall 6 (by decide)) rfl rfl
      · exact hS.val 7 117 _ (hall 7 (by decide)) rfl rfl
      · exact hS.val 8 118 _ (hall 8 (by decide)) rfl rfl
      · exact hS.val 9 119 _ (hall 9 (by decide)) rfl rfl
      · exact hS.val 10 120 _ (hall 10 (by decide)) rfl rfl
      · exact hS.val 11 121 _ (hall 11 (by decide)) rfl rfl
      · exact hS.val 12 122 _ (hall 12 (by decide)) rfl rfl
      · exact hS.val 13 123 _ (hall 13 (by decide)) rfl rfl
      · exact hS.val 14 124 _ (hall 14 (by decide)) rfl rfl
      · exact hS.val 15 125 _ (hall 15 (by decide)) rfl rfl
      · exact hS.val 16 126 _ (hall 16 (by decide)) rfl rfl
      · exact hS.val 17 127 _ (hall 17 (by decide)) rfl rfl
      · exact hS.val 18 128 _ (hall 18 (by decide)) rfl rfl
      · exact hS.val 19 129 _ (hall 19 (by decide)) rfl rfl
      · exact hS.val 20 130 _ (hall 20 (by decide)) rfl rfl)
    rw [hf]
    exact hQ w  hb
end Go.Proofs.Ytbmmjbklfheghaa.Kll
