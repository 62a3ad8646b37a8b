/- GeomAsks' statement with seven calls, guarded and drawn, by an invariant. -/
import Derived.Test.YtgpkdjhllekihaaGSameI
import Derived.Test.YtgpkdjhllekihaaVInv
namespace Go.Proofs.Ytgpkdjhllekihaa.Geo
set_option linter.unusedVariables false
set_option maxRecDepth 100000
open Go.RowKit Go.Shelf
open Go.Proofs.Ytgpkdjhllekihaa.Ven (Seat Pole Ven VenAt venV seatV Box mixed below_alloc Slots wp_region_inv getD_set start_false putAll Slots.start slot_of)

/-- An operation whose guard holds. -/
theorem wanted_guard {ops : Array Oper} {tmps : Array Value} {o : Oper} {j d : Nat} {b : Bool} (hg : o.guard = some (j, b)) (hd : (ops[j]?).bind (·.dst) = some d) (hv : tmps[d]? = some (.bool b)) : Region.wanted o (yielded ops tmps) = true := by
  have hy : yielded ops tmps j = some b := by
    unfold yielded
    have e : (ops[j]?.bind fun x => x.dst) = some d := hd
    simp only [e, Option.bind_some, hv]
  unfold Region.wanted
  rw [hg]
  show (yielded ops tmps j == some b) = true
  rw [hy]; simp
set_option maxHeartbeats 16000000 in
theorem asks_region {Q : Exit → Act → World → Prop} (a0 : Act) (W : World) (hsz0 : a0.tmps.size = 99) (vb pb qb : Nat) (a1 a2 a3 : Option Addr) (n1 c1 n2 c2 n3 c3 : Nat) (gap rad aa b r p0 p1 p2 p3 q0 q1 q2 q3 D : Int) (C : Bool) (L : List Int)
    (h6 : a0.tmps[6]? = some (.pointer (some ⟨vb, 0, none⟩))) (h7 : a0.tmps[7]? = some (.pointer (some ⟨pb, 0, none⟩))) (h8 : a0.tmps[8]? = some (.pointer (some ⟨qb, 0, none⟩))) (h3 : a0.tmps[3]? = some (.int .i64 aa)) (h4 : a0.tmps[4]? = some (.int .i64 b)) (h5 : a0.tmps[5]? = some (.int .i64 r))
    (hx : Box W vb 26 #[.slice a1 n1 c1, .int .i64 gap, .int .i64 rad, .slice a2 n2 c2, .slice a3 n3 c3]) (hp : Box W pb 28 #[.int .i64 p0, .int .i64 p1, .int .i64 p2, .int .i64 p3]) (hq : Box W qb 28 #[.int .i64 q0, .int .i64 q1, .int .i64 q2, .int .i64 q3])
    (hc2 : ∀ w, Below W.heap.size W w → Calls Try.prog 9 #[.agg #[.int .i64 p0, .int .i64 p1, .int .i64 p2, .int .i64 p3], .agg #[.int .i64 q0, .int .i64 q1, .int .i64 q2, .int .i64 q3]] w fun e w' => e = .returned (.int .i64 D) ∧ Below w.heap.size w w')
    (hc5 : ∀ w, Below W.heap.size W w → Calls Try.prog 10 #[.agg #[.int .i64 p0, .int .i64 p1, .int .i64 p2, .int .i64 p3], .agg #[.int .i64 q0, .int .i64 q1, .int .i64 q2, .int .i64 q3]] w fun e w' => e = .returned (.int .i64 D) ∧ Below w.heap.size w w')
    (hc11 : ∀ w, Below W.heap.size W w → Calls Try.prog 11 #[.agg #[.slice a1 n1 c1, .int .i64 gap, .int .i64 rad, .slice a2 n2 c2, .slice a3 n3 c3], .int .i64 aa, .int .i64 b] w fun e w' => e = .returned (.bool C) ∧ Below w.heap.size w w')
    (hc15 : ∀ w, Below W.heap.size W w → Calls Try.prog 12 #[.agg #[.slice a1 n1 c1, .int .i64 gap, .int .i64 rad, .slice a2 n2 c2, .slice a3 n3 c3], .int .i64 aa, .int .i64 b] w fun e w' => e = .returned (.bool C) ∧ Below w.heap.size w w')
    (hc23 : ∀ w, Below W.heap.size W w → Calls Try.prog 14 #[.agg #[.slice a1 n1 c1, .int .i64 gap, .int .i64 rad, .slice a2 n2 c2, .slice a3 n3 c3], .int .i64 aa, .int .i64 b, .int .i64 r] w fun e w' => ∃ v, e = .returned v ∧ Ints w.heap.size w' v L ∧ Below w.heap.size w w')
    (hc28 : ∀ w, Below W.heap.size W w → Calls Try.prog 15 #[.agg #[.slice a1 n1 c1, .int .i64 gap, .int .i64 rad, .slice a2 n2 c2, .slice a3 n3 c3], .int .i64 aa, .int .i64 b, .int .i64 r] w fun e w' => ∃ v, e = .returned v ∧ Ints w.heap.size w' v L ∧ Below w.heap.size w w')
    (hQ : ∀ w' v1 v2, Below W.heap.size W w' → Q .normal { tmps := putAll a0.tmps [(21, .agg #[.int .i64 p0, .int .i64 p1, .int .i64 p2, .int .i64 p3]), (22, .agg #[.int .i64 q0, .int .i64 q1, .int .i64 q2, .int .i64 q3]), (23, .int .i64 D), (24, .agg #[.int .i64 p0, .int .i64 p1, .int .i64 p2, .int .i64 p3]), (25, .agg #[.int .i64 q0, .int .i64 q1, .int .i64 q2, .int .i64 q3]), (26, .int .i64 D), (27, .bool false), (28, .bool false), (29, .agg #[.slice a1 n1 c1, .int .i64 gap, .int .i64 rad, .slice a2 n2 c2, .slice a3 n3 c3]), (30, .int .i64 aa), (31, .int .i64 b), (32, .bool C), (33, .agg #[.slice a1 n1 c1, .int .i64 gap, .int .i64 rad, .slice a2 n2 c2, .slice a3 n3 c3]), (34, .int .i64 aa), (35, .int .i64 b), (36, .bool C), (37, .bool false), (38, .bool false), (39, .bool false), (40, .agg #[.slice a1 n1 c1, .int .i64 gap, .int .i64 rad, .slice a2 n2 c2, .slice a3 n3 c3]), (41, .int .i64 aa), (42, .int .i64 b), (43, .int .i64 r), (44, v1), (45, .agg #[.slice a1 n1 c1, .int .i64 gap, .int .i64 rad, .slice a2 n2 c2, .slice a3 n3 c3]), (46, .int .i64 aa), (47, .int .i64 b), (48, .int .i64 r), (49, v2), (50, .bool true), (51, .bool false), (52, .bool false)], defers := a0.defers } w') :
    (Code.region 3 #[{ dst := some 21, op := Op.load 28 (Operand.tmp 7), type := 28, pos := "law.go:25", after := #[], guard := none }, { dst := some 22, op := Op.load 28 (Operand.tmp 8), type := 28, pos := "law.go:25", after := #[], guard := none }, { dst := some 23, op := Op.call { callee := Callee.value (Operand.func 9), args := #[Operand.tmp 21, Operand.tmp 22], argTypes := #[28, 28] }, type := 2, pos := "law.go:25", after := #[{ on := 0, ground := Ground.data }, { on := 1, ground := Ground.data }], guard := none }, { dst := some 24, op := Op.load 28 (Operand.tmp 7), type := 28, pos := "law.go:25", after := #[], guard := none }, { dst := some 25, op := Op.load 28 (Operand.tmp 8), type := 28, pos := "law.go:25", after := #[], guard := none }, { dst := some 26, op := Op.call { callee := Callee.value (Operand.func 10), args := #[Operand.tmp 24, Operand.tmp 25], argTypes := #[28, 28] }, type := 2, pos := "law.go:25", after := #[{ on := 3, ground := Ground.data }, { on := 4, ground := Ground.data }, { on := 2, ground := Ground.chain }], guard := none }, { dst := some 27, op := Op.binOp BinOp.neq 2 (Operand.tmp 23) (Operand.tmp 26) 2, type := 4, pos := "law.go:25", after := #[{ on := 2, ground := Ground.data }, { on := 5, ground := Ground.data }], guard := none }, { dst := some 28, op := Op.move (Operand.tmp 27), type := 4, pos := "law.go:25", after := #[{ on := 6, ground := Ground.data }, { on := 5, ground := Ground.chain }], guard := none }, { dst := some 29, op := Op.load 26 (Operand.tmp 6), type := 26, pos := "law.go:25", after := #[{ on := 7, ground := Ground.guard }], guard := some (7, false) }, { dst := some 30, op := Op.move (Operand.tmp 3), type := 3, pos := "law.go:25", after := #[{ on := 7, ground := Ground.guard }], guard := some (7, false) }, { dst := some 31, op := Op.move (Operand.tmp 4), type := 3, pos := "law.go:25", after := #[{ on := 7, ground := Ground.guard }], guard := some (7, false) }, { dst := some 32, op := Op.call { callee := Callee.value (Operand.func 11), args := #[Operand.tmp 29, Operand.tmp 30, Operand.tmp 31], argTypes := #[26, 3, 3] }, type := 4, pos := "law.go:25", after := #[{ on := 8, ground := Ground.data }, { on := 9, ground := Ground.data }, { on := 10, ground := Ground.data }, { on := 7, ground := Ground.chain }, { on := 7, ground := Ground.guard }], guard := some (7, false) }, { dst := some 33, op := Op.load 26 (Operand.tmp 6), type := 26, pos := "law.go:25", after := #[{ on := 7, ground := Ground.guard }], guard := some (7, false) }, { dst := some 34, op := Op.move (Operand.tmp 3), type := 3, pos := "law.go:25", after := #[{ on := 7, ground := Ground.guard }], guard := some (7, false) }, { dst := some 35, op := Op.move (Operand.tmp 4), type := 3, pos := "law.go:25", after := #[{ on := 7, ground := Ground.guard }], guard := some (7, false) }, { dst := some 36, op := Op.call { callee := Callee.value (Operand.func 12), args := #[Operand.tmp 33, Operand.tmp 34, Operand.tmp 35], argTypes := #[26, 3, 3] }, type := 4, pos := "law.go:25", after := #[{ on := 12, ground := Ground.data }, { on := 13, ground := Ground.data }, { on := 14, ground := Ground.data }, { on := 11, ground := Ground.chain }, { on := 7, ground := Ground.guard }], guard := some (7, false) }, { dst := some 37, op := Op.binOp BinOp.neq 4 (Operand.tmp 32) (Operand.tmp 36) 4, type := 4, pos := "law.go:25", after := #[{ on := 11, ground := Ground.data }, { on := 15, ground := Ground.data }, { on := 7, ground := Ground.guard }], guard := some (7, false) }, { dst := some 38, op := Op.pick (Operand.tmp 28) (Operand.const (Value.bool true)) (Operand.tmp 37), type := 4, pos := "law.go:25", after := #[{ on := 7, ground := Ground.data }, { on := 16, ground := Ground.data }], guard := none }, { dst := some 39, op := Op.move (Operand.tmp 38), type := 4, pos := "law.go:25", after := #[{ on := 17, ground := Ground.data }, { on := 15, ground := Ground.chain }], guard := none }, { dst := some 40, op := Op.load 26 (Operand.tmp 6), type := 26, pos := "law.go:25", after := #[{ on := 18, ground := Ground.guard }], guard := some (18, false) }, { dst := some 41, op := Op.move (Operand.tmp 3), type := 3, pos := "law.go:25", after := #[{ on := 18, ground := Ground.guard }], guard := some (18, false) }, { dst := some 42, op := Op.move (Operand.tmp 4), type := 3, pos := "law.go:25", after := #[{ on := 18, ground := Ground.guard }], guard := some (18, false) }, { dst := some 43, op := Op.move (Operand.tmp 5), type := 3, pos := "law.go:25", after := #[{ on := 18, ground := Ground.guard }], guard := some (18, false) }, { dst := some 44, op := Op.call { callee := Callee.value (Operand.func 14), args := #[Operand.tmp 40, Operand.tmp 41, Operand.tmp 42, Operand.tmp 43], argTypes := #[26, 3, 3, 3] }, type := 23, pos := "law.go:25", after := #[{ on := 19, ground := Ground.data }, { on := 20, ground := Ground.data }, { on := 21, ground := Ground.data }, { on := 22, ground := Ground.data }, { on := 18, ground := Ground.chain }, { on := 18, ground := Ground.guard }], guard := some (18, false) }, { dst := some 45, op := Op.load 26 (Operand.tmp 6), type := 26, pos := "law.go:25", after := #[{ on := 18, ground := Ground.guard }], guard := some (18, false) }, { dst := some 46, op := Op.move (Operand.tmp 3), type := 3, pos := "law.go:25", after := #[{ on := 18, ground := Ground.guard }], guard := some (18, false) }, { dst := some 47, op := Op.move (Operand.tmp 4), type := 3, pos := "law.go:25", after := #[{ on := 18, ground := Ground.guard }], guard := some (18, false) }, { dst := some 48, op := Op.move (Operand.tmp 5), type := 3, pos := "law.go:25", after := #[{ on := 18, ground := Ground.guard }], guard := some (18, false) }, { dst := some 49, op := Op.call { callee := Callee.value (Operand.func 15), args := #[Operand.tmp 45, Operand.tmp 46, Operand.tmp 47, Operand.tmp 48], argTypes := #[26, 3, 3, 3] }, type := 23, pos := "law.go:25", after := #[{ on := 24, ground := Ground.data }, { on := 25, ground := Ground.data }, { on := 26, ground := Ground.data }, { on := 27, ground := Ground.data }, { on := 23, ground := Ground.chain }, { on := 18, ground := Ground.guard }], guard := some (18, false) }, { dst := some 50, op := Op.call { callee := Callee.value (Operand.func 13), args := #[Operand.tmp 44, Operand.tmp 49], argTypes := #[23, 23] }, type := 4, pos := "law.go:25", after := #[{ on := 23, ground := Ground.data }, { on := 28, ground := Ground.data }, { on := 28, ground := Ground.chain }, { on := 18, ground := Ground.guard }], guard := some (18, false) }, { dst := some 51, op := Op.unOp UnOp.not 4 (Operand.tmp 50), type := 4, pos := "law.go:25", after := #[{ on := 29, ground := Ground.data }, { on := 18, ground := Ground.guard }], guard := some (18, false) }, { dst := some 52, op := Op.pick (Operand.tmp 39) (Operand.const (Value.bool true)) (Operand.tmp 51), type := 4, pos := "law.go:25", after := #[{ on := 18, ground := Ground.data }, { on := 30, ground := Ground.data }], guard := none }] true).wp Try.prog Q a0 W := by
  have hn : ([some 21, some 22, some 23, some 24, some 25, some 26, some 27, some 28, some 29, some 30, some 31, some 32, some 33, some 34, some 35, some 36, some 37, some 38, some 39, some 40, some 41, some 42, some 43, some 44, some 45, some 46, some 47, some 48, some 49, some 50, some 51, some 52] : List (Option Nat)).Pairwise (fun x y => x = none ∨ x ≠ y) := of_decide_eq_true (by kernel_rfl)
  have dD : decide (D = D) = true := decide_eq_true rfl
  have bD : (D == D) = true := by simp
  have nD : (D != D) = false := by simp
  have dC : decide (C = C) = true := decide_eq_true rfl
  have bC : (C == C) = true := by simp
  have nC : (C != C) = false := by simp
  refine wp_region_inv mixed (fun listed a w => Slots a0 [some 21, some 22, some 23, some 24, some 25, some 26, some 27, some 28, some 29, some 30, some 31, some 32, some 33, some 34, some 35, some 36, some 37, some 38, some 39, some 40, some 41, some 42, some 43, some 44, some 45, some 46, some 47, some 48, some 49, some 50, some 51, some 52] [some (.agg #[.int .i64 p0, .int .i64 p1, .int .i64 p2, .int .i64 p3]), some (.agg #[.int .i64 q0, .int .i64 q1, .int .i64 q2, .int .i64 q3]), some (.int .i64 D), some (.agg #[.int .i64 p0, .int .i64 p1, .int .i64 p2, .int .i64 p3]), some (.agg #[.int .i64 q0, .int .i64 q1, .int .i64 q2, .int .i64 q3]), some (.int .i64 D), some (.bool false), some (.bool false), some (.agg #[.slice a1 n1 c1, .int .i64 gap, .int .i64 rad, .slice a2 n2 c2, .slice a3 n3 c3]), some (.int .i64 aa), some (.int .i64 b), some (.bool C), some (.agg #[.slice a1 n1 c1, .int .i64 gap, .int .i64 rad, .slice a2 n2 c2, .slice a3 n3 c3]), some (.int .i64 aa), some (.int .i64 b), some (.bool C), some (.bool false), some (.bool false), some (.bool false), some (.agg #[.slice a1 n1 c1, .int .i64 gap, .int .i64 rad, .slice a2 n2 c2, .slice a3 n3 c3]), some (.int .i64 aa), some (.int .i64 b), some (.int .i64 r), none, some (.agg #[.slice a1 n1 c1, .int .i64 gap, .int .i64 rad, .slice a2 n2 c2, .slice a3 n3 c3]), some (.int .i64 aa), some (.int .i64 b), some (.int .i64 r), none, some (.bool true), some (.bool false), some (.bool false)] listed a ∧ Below W.heap.size W w ∧ (listed.getD 23 false = true → ∃ v, a.tmps[44]? = some v ∧ Ints W.heap.size w v L) ∧ (listed.getD 28 false = true → ∃ v, a.tmps[49]? = some v ∧ Ints W.heap.size w v L)) (by kernel_rfl) ?_ ?_ ?_
  · exact ⟨Slots.start _ _ _ _, (Below.refl _ W).drew, fun h => (by rw [start_false] at h; cases h), fun h => (by rw [start_false] at h; cases h)⟩
  · intro listed a w i' hsl hilt hl hd hcl ⟨hS, hb, hA1, hA2⟩
    have hsz : Hid (a.tmps.size = 99) := hS.size.trans hsz0
    have hls : i' < listed.size := by rw [hsl]; exact hilt
    have hcase : i' = 0 ∨ i' = 1 ∨ i' = 2 ∨ i' = 3 ∨ i' = 4 ∨ i' = 5 ∨ i' = 6 ∨ i' = 7 ∨ i' = 8 ∨ i' = 9 ∨ i' = 10 ∨ i' = 11 ∨ i' = 12 ∨ i' = 13 ∨ i' = 14 ∨ i' = 15 ∨ i' = 16 ∨ i' = 17 ∨ i' = 18 ∨ i' = 19 ∨ i' = 20 ∨ i' = 21 ∨ i' = 22 ∨ i' = 23 ∨ i' = 24 ∨ i' = 25 ∨ i' = 26 ∨ i' = 27 ∨ i' = 28 ∨ i' = 29 ∨ i' = 30 ∨ i' = 31 := by
      have : i' < 32 := hilt
      omega
    rcases hcase with rfl | rfl | rfl | rfl | rfl | rfl | rfl | rfl | rfl | rfl | rfl | rfl | rfl | rfl | rfl | rfl | rfl | rfl | rfl | rfl | rfl | rfl | rfl | rfl | rfl | rfl | rfl | rfl | rfl | rfl | rfl | rfl
    ·
      refine wpOp_step (o := { dst := some 21, op := Op.load 28 (Operand.tmp 7), type := 28, pos := "law.go:25", after := #[], guard := none }) rfl ?_
      intro K hK
      have q7_ : a.tmps[7]? = some (.pointer (some ⟨pb, 0, none⟩)) := (hS.keep 7 (of_decide_eq_true (by kernel_rfl))).trans h7
      have m0 := (hp.next hb).cell 0 _ rfl
      have m1 := (hp.next hb).cell 1 _ rfl
      have m2 := (hp.next hb).cell 2 _ rfl
      have m3 := (hp.next hb).cell 3 _ rfl
      go_simp
      exact hK _ _ ⟨hS.put hn 0 21 _ rfl (by rw [hsz0]; omega) (fun u h => by injection h with h; injection h with h; exact h.symm), hb, fun h => by
        rw [getD_set hls, if_neg (by omega)] at h
        obtain ⟨v, hv1, hv2⟩ := hA1 h
        exact ⟨v, by simpa using hv1, hv2⟩, fun h => by
        rw [getD_set hls, if_neg (by omega)] at h
        obtain ⟨v, hv1, hv2⟩ := hA2 h
        exact ⟨v, by simpa using hv1, hv2⟩⟩
    ·
      refine wpOp_step (o := { dst := some 22, op := Op.load 28 (Operand.tmp 8), type := 28, pos := "law.go:25", after := #[], guard := none }) rfl ?_
      intro K hK
      have q8_ : a.tmps[8]? = some (.pointer (some ⟨qb, 0, none⟩)) := (hS.keep 8 (of_decide_eq_true (by kernel_rfl))).trans h8
      have m0 := (hq.next hb).cell 0 _ rfl
      have m1 := (hq.next hb).cell 1 _ rfl
      have m2 := (hq.next hb).cell 2 _ rfl
      have m3 := (hq.next hb).cell 3 _ rfl
      go_simp
      exact hK _ _ ⟨hS.put hn 1 22 _ rfl (by rw [hsz0]; omega) (fun u h => by injection h with h; injection h with h; exact h.symm), hb, fun h => by
        rw [getD_set hls, if_neg (by omega)] at h
        obtain ⟨v, hv1, hv2⟩ := hA1 h
        exact ⟨v, by simpa using hv1, hv2⟩, fun h => by
        rw [getD_set hls, if_neg (by omega)] at h
        obtain ⟨v, hv1, hv2⟩ := hA2 h
        exact ⟨v, by simpa using hv1, hv2⟩⟩
    ·
      refine wpOp_step (o := { dst := some 23, op := Op.call { callee := Callee.value (Operand.func 9), args := #[Operand.tmp 21, Operand.tmp 22], argTypes := #[28, 28] }, type := 2, pos := "law.go:25", after := #[{ on := 0, ground := Ground.data }, { on := 1, ground := Ground.data }], guard := none }) rfl ?_
      intro K hK
      have q21_ : a.tmps[21]? = some (.agg #[.int .i64 p0, .int .i64 p1, .int .i64 p2, .int .i64 p3]) := hS.val 0 21 _ (hd 0 (of_decide_eq_true (by kernel_rfl))) rfl rfl
      have q22_ : a.tmps[22]? = some (.agg #[.int .i64 q0, .int .i64 q1, .int .i64 q2, .int .i64 q3]) := hS.val 1 22 _ (hd 1 (of_decide_eq_true (by kernel_rfl))) rfl rfl
      have hc := hc2 w hb
      go_simp
      go_at_call 9
      refine hc.mono ?_
      rintro e w' ⟨rfl, hb2⟩
      exact hK _ _ ⟨hS.put hn 2 23 _ rfl (by rw [hsz0]; omega) (fun u h => by injection h with h; injection h with h; exact h.symm), hb.trans (hb2.mono hb.size), fun h => by
        rw [getD_set hls, if_neg (by omega)] at h
        obtain ⟨v, hv1, hv2⟩ := hA1 h
        exact ⟨v, by simpa using hv1, hv2.next hb2⟩, fun h => by
        rw [getD_set hls, if_neg (by omega)] at h
        obtain ⟨v, hv1, hv2⟩ := hA2 h
        exact ⟨v, by simpa using hv1, hv2.next hb2⟩⟩
    ·
      refine wpOp_step (o := { dst := some 24, op := Op.load 28 (Operand.tmp 7), type := 28, pos := "law.go:25", after := #[], guard := none }) rfl ?_
      intro K hK
      have q7_ : a.tmps[7]? = some (.pointer (some ⟨pb, 0, none⟩)) := (hS.keep 7 (of_decide_eq_true (by kernel_rfl))).trans h7
      have m0 := (hp.next hb).cell 0 _ rfl
      have m1 := (hp.next hb).cell 1 _ rfl
      have m2 := (hp.next hb).cell 2 _ rfl
      have m3 := (hp.next hb).cell 3 _ rfl
      go_simp
      exact hK _ _ ⟨hS.put hn 3 24 _ rfl (by rw [hsz0]; omega) (fun u h => by injection h with h; injection h with h; exact h.symm), hb, fun h => by
        rw [getD_set hls, if_neg (by omega)] at h
        obtain ⟨v, hv1, hv2⟩ := hA1 h
        exact ⟨v, by simpa using hv1, hv2⟩, fun h => by
        rw [getD_set hls, if_neg (by omega)] at h
        obtain ⟨v, hv1, hv2⟩ := hA2 h
        exact ⟨v, by simpa using hv1, hv2⟩⟩
    ·
      refine wpOp_step (o := { dst := some 25, op := Op.load 28 (Operand.tmp 8), type := 28, pos := "law.go:25", after := #[], guard := none }) rfl ?_
      intro K hK
      have q8_ : a.tmps[8]? = some (.pointer (some ⟨qb, 0, none⟩)) := (hS.keep 8 (of_decide_eq_true (by kernel_rfl))).trans h8
      have m0 := (hq.next hb).cell 0 _ rfl
      have m1 := (hq.next hb).cell 1 _ rfl
      have m2 := (hq.next hb).cell 2 _ rfl
      have m3 := (hq.next hb).cell 3 _ rfl
      go_simp
      exact hK _ _ ⟨hS.put hn 4 25 _ rfl (by rw [hsz0]; omega) (fun u h => by injection h with h; injection h with h; exact h.symm), hb, fun h => by
        rw [getD_set hls, if_neg (by omega)] at h
        obtain ⟨v, hv1, hv2⟩ := hA1 h
        exact ⟨v, by simpa using hv1, hv2⟩, fun h => by
        rw [getD_set hls, if_neg (by omega)] at h
        obtain ⟨v, hv1, hv2⟩ := hA2 h
        exact ⟨v, by simpa using hv1, hv2⟩⟩
    ·
      refine wpOp_step (o := { dst := some 26, op := Op.call { callee := Callee.value (Operand.func 10), args := #[Operand.tmp 24, Operand.tmp 25], argTypes := #[28, 28] }, type := 2, pos := "law.go:25", after := #[{ on := 3, ground := Ground.data }, { on := 4, ground := Ground.data }, { on := 2, ground := Ground.chain }], guard := none }) rfl ?_
      intro K hK
      have q24_ : a.tmps[24]? = some (.agg #[.int .i64 p0, .int .i64 p1, .int .i64 p2, .int .i64 p3]) := hS.val 3 24 _ (hd 3 (of_decide_eq_true (by kernel_rfl))) rfl rfl
      have q25_ : a.tmps[25]? = some (.agg #[.int .i64 q0, .int .i64 q1, .int .i64 q2, .int .i64 q3]) := hS.val 4 25 _ (hd 4 (of_decide_eq_true (by kernel_rfl))) rfl rfl
      have hc := hc5 w hb
      go_simp
      go_at_call 10
      refine hc.mono ?_
      rintro e w' ⟨rfl, hb2⟩
      exact hK _ _ ⟨hS.put hn 5 26 _ rfl (by rw [hsz0]; omega) (fun u h => by injection h with h; injection h with h; exact h.symm), hb.trans (hb2.mono hb.size), fun h => by
        rw [getD_set hls, if_neg (by omega)] at h
        obtain ⟨v, hv1, hv2⟩ := hA1 h
        exact ⟨v, by simpa using hv1, hv2.next hb2⟩, fun h => by
        rw [getD_set hls, if_neg (by omega)] at h
        obtain ⟨v, hv1, hv2⟩ := hA2 h
        exact ⟨v, by simpa using hv1, hv2.next hb2⟩⟩
    ·
      refine wpOp_step (o := { dst := some 27, op := Op.binOp BinOp.neq 2 (Operand.tmp 23) (Operand.tmp 26) 2, type := 4, pos := "law.go:25", after := #[{ on := 2, ground := Ground.data }, { on := 5, ground := Ground.data }], guard := none }) rfl ?_
      intro K hK
      have q23_ : a.tmps[23]? = some (.int .i64 D) := hS.val 2 23 _ (hd 2 (of_decide_eq_true (by kernel_rfl))) rfl rfl
      have q26_ : a.tmps[26]? = some (.int .i64 D) := hS.val 5 26 _ (hd 5 (of_decide_eq_true (by kernel_rfl))) rfl rfl
      go_simp
      exact hK _ _ ⟨hS.put hn 6 27 _ rfl (by rw [hsz0]; omega) (fun u h => by injection h with h; injection h with h; exact h.symm), hb, fun h => by
        rw [getD_set hls, if_neg (by omega)] at h
        obtain ⟨v, hv1, hv2⟩ := hA1 h
        exact ⟨v, by simpa using hv1, hv2⟩, fun h => by
        rw [getD_set hls, if_neg (by omega)] at h
        obtain ⟨v, hv1, hv2⟩ := hA2 h
        exact ⟨v, by simpa using hv1, hv2⟩⟩
    ·
      refine wpOp_step (o := { dst := some 28, op := Op.move (Operand.tmp 27), type := 4, pos := "law.go:25", after := #[{ on := 6, ground := Ground.data }, { on := 5, ground := Ground.chain }], guard := none }) rfl ?_
      intro K hK
      have q27_ : a.tmps[27]? = some (.bool false) := hS.val 6 27 _ (hd 6 (of_decide_eq_true (by kernel_rfl))) rfl rfl
      go_simp
      exact hK _ _ ⟨hS.put hn 7 28 _ rfl (by rw [hsz0]; omega) (fun u h => by injection h with h; injection h with h; exact h.symm), hb, fun h => by
        rw [getD_set hls, if_neg (by omega)] at h
        obtain ⟨v, hv1, hv2⟩ := hA1 h
        exact ⟨v, by simpa using hv1, hv2⟩, fun h => by
        rw [getD_set hls, if_neg (by omega)] at h
        obtain ⟨v, hv1, hv2⟩ := hA2 h
        exact ⟨v, by simpa using hv1, hv2⟩⟩
    ·
      refine wpOp_step (o := { dst := some 29, op := Op.load 26 (Operand.tmp 6), type := 26, pos := "law.go:25", after := #[{ on := 7, ground := Ground.guard }], guard := some (7, false) }) rfl ?_
      intro K hK
      have q28_ : a.tmps[28]? = some (.bool false) := hS.val 7 28 _ (hd 7 (of_decide_eq_true (by kernel_rfl))) rfl rfl
      have q6_ : a.tmps[6]? = some (.pointer (some ⟨vb, 0, none⟩)) := (hS.keep 6 (of_decide_eq_true (by kernel_rfl))).trans h6
      rw [if_pos (wanted_guard (j := 7) (d := 28) (b := false) rfl rfl q28_)]
      have m0 := (hx.next hb).cell 0 _ rfl
      have m1 := (hx.next hb).cell 1 _ rfl
      have m2 := (hx.next hb).cell 2 _ rfl
      have m3 := (hx.next hb).cell 3 _ rfl
      have m4 := (hx.next hb).cell 4 _ rfl
      go_simp
      exact hK _ _ ⟨hS.put hn 8 29 _ rfl (by rw [hsz0]; omega) (fun u h => by injection h with h; injection h with h; exact h.symm), hb, fun h => by
        rw [getD_set hls, if_neg (by omega)] at h
        obtain ⟨v, hv1, hv2⟩ := hA1 h
        exact ⟨v, by simpa using hv1, hv2⟩, fun h => by
        rw [getD_set hls, if_neg (by omega)] at h
        obtain ⟨v, hv1, hv2⟩ := hA2 h
        exact ⟨v, by simpa using hv1, hv2⟩⟩
    ·
      refine wpOp_step (o := { dst := some 30, op := Op.move (Operand.tmp 3), type := 3, pos := "law.go:25", after := #[{ on := 7, ground := Ground.guard }], guard := some (7, false) }) rfl ?_
      intro K hK
      have q28_ : a.tmps[28]? = some (.bool false) := hS.val 7 28 _ (hd 7 (of_decide_eq_true (by kernel_rfl))) rfl rfl
      have q3_ : a.tmps[3]? = some (.int .i64 aa) := (hS.keep 3 (of_decide_eq_true (by kernel_rfl))).trans h3
      rw [if_pos (wanted_guard (j := 7) (d := 28) (b := false) rfl rfl q28_)]
      go_simp
      exact hK _ _ ⟨hS.put hn 9 30 _ rfl (by rw [hsz0]; omega) (fun u h => by injection h with h; injection h with h; exact h.symm), hb, fun h => by
        rw [getD_set hls, if_neg (by omega)] at h
        obtain ⟨v, hv1, hv2⟩ := hA1 h
        exact ⟨v, by simpa using hv1, hv2⟩, fun h => by
        rw [getD_set hls, if_neg (by omega)] at h
        obtain ⟨v, hv1, hv2⟩ := hA2 h
        exact ⟨v, by simpa using hv1, hv2⟩⟩
    ·
      refine wpOp_step (o := { dst := some 31, op := Op.move (Operand.tmp 4), type := 3, pos := "law.go:25", after := #[{ on := 7, ground := Ground.guard }], guard := some (7, false) }) rfl ?_
      intro K hK
      have q28_ : a.tmps[28]? = some (.bool false) := hS.val 7 28 _ (hd 7 (of_decide_eq_true (by kernel_rfl))) rfl rfl
      have q4_ : a.tmps[4]? = some (.int .i64 b) := (hS.keep 4 (of_decide_eq_true (by kernel_rfl))).trans h4
      rw [if_pos (wanted_guard (j := 7) (d := 28) (b := false) rfl rfl q28_)]
      go_simp
      exact hK _ _ ⟨hS.put hn 10 31 _ rfl (by rw [hsz0]; omega) (fun u h => by injection h with h; injection h with h; exact h.symm), hb, fun h => by
        rw [getD_set hls, if_neg (by omega)] at h
        obtain ⟨v, hv1, hv2⟩ := hA1 h
        exact ⟨v, by simpa using hv1, hv2⟩, fun h => by
        rw [getD_set hls, if_neg (by omega)] at h
        obtain ⟨v, hv1, hv2⟩ := hA2 h
        exact ⟨v, by simpa using hv1, hv2⟩⟩
    ·
      refine wpOp_step (o := { dst := some 32, op := Op.call { callee := Callee.value (Operand.func 11), args := #[Operand.tmp 29, Operand.tmp 30, Operand.tmp 31], argTypes := #[26, 3, 3] }, type := 4, pos := "law.go:25", after := #[{ on := 8, ground := Ground.data }, { on := 9, ground := Ground.data }, { on := 10, ground := Ground.data }, { on := 7, ground := Ground.chain }, { on := 7, ground := Ground.guard }], guard := some (7, false) }) rfl ?_
      intro K hK
      have q28_ : a.tmps[28]? = some (.bool false) := hS.val 7 28 _ (hd 7 (of_decide_eq_true (by kernel_rfl))) rfl rfl
      have q29_ : a.tmps[29]? = some (.agg #[.slice a1 n1 c1, .int .i64 gap, .int .i64 rad, .slice a2 n2 c2, .slice a3 n3 c3]) := hS.val 8 29 _ (hd 8 (of_decide_eq_true (by kernel_rfl))) rfl rfl
      have q30_ : a.tmps[30]? = some (.int .i64 aa) := hS.val 9 30 _ (hd 9 (of_decide_eq_true (by kernel_rfl))) rfl rfl
      have q31_ : a.tmps[31]? = some (.int .i64 b) := hS.val 10 31 _ (hd 10 (of_decide_eq_true (by kernel_rfl))) rfl rfl
      rw [if_pos (wanted_guard (j := 7) (d := 28) (b := false) rfl rfl q28_)]
      have hc := hc11 w hb
      go_simp
      go_at_call 11
      refine hc.mono ?_
      rintro e w' ⟨rfl, hb2⟩
      exact hK _ _ ⟨hS.put hn 11 32 _ rfl (by rw [hsz0]; omega) (fun u h => by injection h with h; injection h with h; exact h.symm), hb.trans (hb2.mono hb.size), fun h => by
        rw [getD_set hls, if_neg (by omega)] at h
        obtain ⟨v, hv1, hv2⟩ := hA1 h
        exact ⟨v, by simpa using hv1, hv2.next hb2⟩, fun h => by
        rw [getD_set hls, if_neg (by omega)] at h
        obtain ⟨v, hv1, hv2⟩ := hA2 h
        exact ⟨v, by simpa using hv1, hv2.next hb2⟩⟩
    ·
      refine wpOp_step (o := { dst := some 33, op := Op.load 26 (Operand.tmp 6), type := 26, pos := "law.go:25", after := #[{ on := 7, ground := Ground.guard }], guard := some (7, false) }) rfl ?_
      intro K hK
      have q28_ : a.tmps[28]? = some (.bool false) := hS.val 7 28 _ (hd 7 (of_decide_eq_true (by kernel_rfl))) rfl rfl
      have q6_ : a.tmps[6]? = some (.pointer (some ⟨vb, 0, none⟩)) := (hS.keep 6 (of_decide_eq_true (by kernel_rfl))).trans h6
      rw [if_pos (wanted_guard (j := 7) (d := 28) (b := false) rfl rfl q28_)]
      have m0 := (hx.next hb).cell 0 _ rfl
      have m1 := (hx.next hb).cell 1 _ rfl
      have m2 := (hx.next hb).cell 2 _ rfl
      have m3 := (hx.next hb).cell 3 _ rfl
      have m4 := (hx.next hb).cell 4 _ rfl
      go_simp
      exact hK _ _ ⟨hS.put hn 12 33 _ rfl (by rw [hsz0]; omega) (fun u h => by injection h with h; injection h with h; exact h.symm), hb, fun h => by
        rw [getD_set hls, if_neg (by omega)] at h
        obtain ⟨v, hv1, hv2⟩ := hA1 h
        exact ⟨v, by simpa using hv1, hv2⟩, fun h => by
        rw [getD_set hls, if_neg (by omega)] at h
        obtain ⟨v, hv1, hv2⟩ := hA2 h
        exact ⟨v, by simpa using hv1, hv2⟩⟩
    ·
      refine wpOp_step (o := { dst := some 34, op := Op.move (Operand.tmp 3), type := 3, pos := "law.go:25", after := #[{ on := 7, ground := Ground.guard }], guard := some (7, false) }) rfl ?_
      intro K hK
      have q28_ : a.tmps[28]? = some (.bool false) := hS.val 7 28 _ (hd 7 (of_decide_eq_true (by kernel_rfl))) rfl rfl
      have q3_ : a.tmps[3]? = some (.int .i64 aa) := (hS.keep 3 (of_decide_eq_true (by kernel_rfl))).trans h3
      rw [if_pos (wanted_guard (j := 7) (d := 28) (b := false) rfl rfl q28_)]
      go_simp
      exact hK _ _ ⟨hS.put hn 13 34 _ rfl (by rw [hsz0]; omega) (fun u h => by injection h with h; injection h with h; exact h.symm), hb, fun h => by
        rw [getD_set hls, if_neg (by omega)] at h
        obtain ⟨v, hv1, hv2⟩ := hA1 h
        exact ⟨v, by simpa using hv1, hv2⟩, fun h => by
        rw [getD_set hls, if_neg (by omega)] at h
        obtain ⟨v, hv1, hv2⟩ := hA2 h
        exact ⟨v, by simpa using hv1, hv2⟩⟩
    ·
      refine wpOp_step (o := { dst := some 35, op := Op.move (Operand.tmp 4), type := 3, pos := "law.go:25", after := #[{ on := 7, ground := Ground.guard }], guard := some (7, false) }) rfl ?_
      intro K hK
      have q28_ : a.tmps[28]? = some (.bool false) := hS.val 7 28 _ (hd 7 (of_decide_eq_true (by kernel_rfl))) rfl rfl
      have q4_ : a.tmps[4]? = some (.int .i64 b) := (hS.keep 4 (of_decide_eq_true (by kernel_rfl))).trans h4
      rw [if_pos (wanted_guard (j := 7) (d := 28) (b := false) rfl rfl q28_)]
      go_simp
      exact hK _ _ ⟨hS.put hn 14 35 _ rfl (by rw [hsz0]; omega) (fun u h => by injection h with h; injection h with h; exact h.symm), hb, fun h => by
        rw [getD_set hls, if_neg (by omega)] at h
        obtain ⟨v, hv1, hv2⟩ := hA1 h
        exact ⟨v, by simpa using hv1, hv2⟩, fun h => by
        rw [getD_set hls, if_neg (by omega)] at h
        obtain ⟨v, hv1, hv2⟩ := hA2 h
        exact ⟨v, by simpa using hv1, hv2⟩⟩
    ·
      refine wpOp_step (o := { dst := some 36, op := Op.call { callee := Callee.value (Operand.func 12), args := #[Operand.tmp 33, Operand.tmp 34, Operand.tmp 35], argTypes := #[26, 3, 3] }, type := 4, pos := "law.go:25", after := #[{ on := 12, ground := Ground.data }, { on := 13, ground := Ground.data }, { on := 14, ground := Ground.data }, { on := 11, ground := Ground.chain }, { on := 7, ground := Ground.guard }], guard := some (7, false) }) rfl ?_
      intro K hK
      have q28_ : a.tmps[28]? = some (.bool false) := hS.val 7 28 _ (hd 7 (of_decide_eq_true (by kernel_rfl))) rfl rfl
      have q33_ : a.tmps[33]? = some (.agg #[.slice a1 n1 c1, .int .i64 gap, .int .i64 rad, .slice a2 n2 c2, .slice a3 n3 c3]) := hS.val 12 33 _ (hd 12 (of_decide_eq_true (by kernel_rfl))) rfl rfl
      have q34_ : a.tmps[34]? = some (.int .i64 aa) := hS.val 13 34 _ (hd 13 (of_decide_eq_true (by kernel_rfl))) rfl rfl
      have q35_ : a.tmps[35]? = some (.int .i64 b) := hS.val 14 35 _ (hd 14 (of_decide_eq_true (by kernel_rfl))) rfl rfl
      rw [if_pos (wanted_guard (j := 7) (d := 28) (b := false) rfl rfl q28_)]
      have hc := hc15 w hb
      go_simp
      go_at_call 12
      refine hc.mono ?_
      rintro e w' ⟨rfl, hb2⟩
      exact hK _ _ ⟨hS.put hn 15 36 _ rfl (by rw [hsz0]; omega) (fun u h => by injection h with h; injection h with h; exact h.symm), hb.trans (hb2.mono hb.size), fun h => by
        rw [getD_set hls, if_neg (by omega)] at h
        obtain ⟨v, hv1, hv2⟩ := hA1 h
        exact ⟨v, by simpa using hv1, hv2.next hb2⟩, fun h => by
        rw [getD_set hls, if_neg (by omega)] at h
        obtain ⟨v, hv1, hv2⟩ := hA2 h
        exact ⟨v, by simpa using hv1, hv2.next hb2⟩⟩
    ·
      refine wpOp_step (o := { dst := some 37, op := Op.binOp BinOp.neq 4 (Operand.tmp 32) (Operand.tmp 36) 4, type := 4, pos := "law.go:25", after := #[{ on := 11, ground := Ground.data }, { on := 15, ground := Ground.data }, { on := 7, ground := Ground.guard }], guard := some (7, false) }) rfl ?_
      intro K hK
      have q28_ : a.tmps[28]? = some (.bool false) := hS.val 7 28 _ (hd 7 (of_decide_eq_true (by kernel_rfl))) rfl rfl
      have q32_ : a.tmps[32]? = some (.bool C) := hS.val 11 32 _ (hd 11 (of_decide_eq_true (by kernel_rfl))) rfl rfl
      have q36_ : a.tmps[36]? = some (.bool C) := hS.val 15 36 _ (hd 15 (of_decide_eq_true (by kernel_rfl))) rfl rfl
      rw [if_pos (wanted_guard (j := 7) (d := 28) (b := false) rfl rfl q28_)]
      go_simp
      exact hK _ _ ⟨hS.put hn 16 37 _ rfl (by rw [hsz0]; omega) (fun u h => by injection h with h; injection h with h; exact h.symm), hb, fun h => by
        rw [getD_set hls, if_neg (by omega)] at h
        obtain ⟨v, hv1, hv2⟩ := hA1 h
        exact ⟨v, by simpa using hv1, hv2⟩, fun h => by
        rw [getD_set hls, if_neg (by omega)] at h
        obtain ⟨v, hv1, hv2⟩ := hA2 h
        exact ⟨v, by simpa using hv1, hv2⟩⟩
    ·
      refine wpOp_step (o := { dst := some 38, op := Op.pick (Operand.tmp 28) (Operand.const (Value.bool true)) (Operand.tmp 37), type := 4, pos := "law.go:25", after := #[{ on := 7, ground := Ground.data }, { on := 16, ground := Ground.data }], guard := none }) rfl ?_
      intro K hK
      have q28_ : a.tmps[28]? = some (.bool false) := hS.val 7 28 _ (hd 7 (of_decide_eq_true (by kernel_rfl))) rfl rfl
      have q37_ : a.tmps[37]? = some (.bool false) := hS.val 16 37 _ (hd 16 (of_decide_eq_true (by kernel_rfl))) rfl rfl
      go_simp
      exact hK _ _ ⟨hS.put hn 17 38 _ rfl (by rw [hsz0]; omega) (fun u h => by injection h with h; injection h with h; exact h.symm), hb, fun h => by
        rw [getD_set hls, if_neg (by omega)] at h
        obtain ⟨v, hv1, hv2⟩ := hA1 h
        exact ⟨v, by simpa using hv1, hv2⟩, fun h => by
        rw [getD_set hls, if_neg (by omega)] at h
        obtain ⟨v, hv1, hv2⟩ := hA2 h
        exact ⟨v, by simpa using hv1, hv2⟩⟩
    ·
      refine wpOp_step (o := { dst := some 39, op := Op.move (Operand.tmp 38), type := 4, pos := "law.go:25", after := #[{ on := 17, ground := Ground.data }, { on := 15, ground := Ground.chain }], guard := none }) rfl ?_
      intro K hK
      have q38_ : a.tmps[38]? = some (.bool false) := hS.val 17 38 _ (hd 17 (of_decide_eq_true (by kernel_rfl))) rfl rfl
      go_simp
      exact hK _ _ ⟨hS.put hn 18 39 _ rfl (by rw [hsz0]; omega) (fun u h => by injection h with h; injection h with h; exact h.symm), hb, fun h => by
        rw [getD_set hls, if_neg (by omega)] at h
        obtain ⟨v, hv1, hv2⟩ := hA1 h
        exact ⟨v, by simpa using hv1, hv2⟩, fun h => by
        rw [getD_set hls, if_neg (by omega)] at h
        obtain ⟨v, hv1, hv2⟩ := hA2 h
        exact ⟨v, by simpa using hv1, hv2⟩⟩
    ·
      refine wpOp_step (o := { dst := some 40, op := Op.load 26 (Operand.tmp 6), type := 26, pos := "law.go:25", after := #[{ on := 18, ground := Ground.guard }], guard := some (18, false) }) rfl ?_
      intro K hK
      have q39_ : a.tmps[39]? = some (.bool false) := hS.val 18 39 _ (hd 18 (of_decide_eq_true (by kernel_rfl))) rfl rfl
      have q6_ : a.tmps[6]? = some (.pointer (some ⟨vb, 0, none⟩)) := (hS.keep 6 (of_decide_eq_true (by kernel_rfl))).trans h6
      rw [if_pos (wanted_guard (j := 18) (d := 39) (b := false) rfl rfl q39_)]
      have m0 := (hx.next hb).cell 0 _ rfl
      have m1 := (hx.next hb).cell 1 _ rfl
      have m2 := (hx.next hb).cell 2 _ rfl
      have m3 := (hx.next hb).cell 3 _ rfl
      have m4 := (hx.next hb).cell 4 _ rfl
      go_simp
      exact hK _ _ ⟨hS.put hn 19 40 _ rfl (by rw [hsz0]; omega) (fun u h => by injection h with h; injection h with h; exact h.symm), hb, fun h => by
        rw [getD_set hls, if_neg (by omega)] at h
        obtain ⟨v, hv1, hv2⟩ := hA1 h
        exact ⟨v, by simpa using hv1, hv2⟩, fun h => by
        rw [getD_set hls, if_neg (by omega)] at h
        obtain ⟨v, hv1, hv2⟩ := hA2 h
        exact ⟨v, by simpa using hv1, hv2⟩⟩
    ·
      refine wpOp_step (o := { dst := some 41, op := Op.move (Operand.tmp 3), type := 3, pos := "law.go:25", after := #[{ on := 18, ground := Ground.guard }], guard := some (18, false) }) rfl ?_
      intro K hK
      have q39_ : a.tmps[39]? = some (.bool false) := hS.val 18 39 _ (hd 18 (of_decide_eq_true (by kernel_rfl))) rfl rfl
      have q3_ : a.tmps[3]? = some (.int .i64 aa) := (hS.keep 3 (of_decide_eq_true (by kernel_rfl))).trans h3
      rw [if_pos (wanted_guard (j := 18) (d := 39) (b := false) rfl rfl q39_)]
      go_simp
      exact hK _ _ ⟨hS.put hn 20 41 _ rfl (by rw [hsz0]; omega) (fun u h => by injection h with h; injection h with h; exact h.symm), hb, fun h => by
        rw [getD_set hls, if_neg (by omega)] at h
        obtain ⟨v, hv1, hv2⟩ := hA1 h
        exact ⟨v, by simpa using hv1, hv2⟩, fun h => by
        rw [getD_set hls, if_neg (by omega)] at h
        obtain ⟨v, hv1, hv2⟩ := hA2 h
        exact ⟨v, by simpa using hv1, hv2⟩⟩
    ·
      refine wpOp_step (o := { dst := some 42, op := Op.move (Operand.tmp 4), type := 3, pos := "law.go:25", after := #[{ on := 18, ground := Ground.guard }], guard := some (18, false) }) rfl ?_
      intro K hK
      have q39_ : a.tmps[39]? = some (.bool false) := hS.val 18 39 _ (hd 18 (of_decide_eq_true (by kernel_rfl))) rfl rfl
      have q4_ : a.tmps[4]? = some (.int .i64 b) := (hS.keep 4 (of_decide_eq_true (by kernel_rfl))).trans h4
      rw [if_pos (wanted_guard (j := 18) (d := 39) (b := false) rfl rfl q39_)]
      go_simp
      exact hK _ _ ⟨hS.put hn 21 42 _ rfl (by rw [hsz0]; omega) (fun u h => by injection h with h; injection h with h; exact h.symm), hb, fun h => by
        rw [getD_set hls, if_neg (by omega)] at h
        obtain ⟨v, hv1, hv2⟩ := hA1 h
        exact ⟨v, by simpa using hv1, hv2⟩, fun h => by
        rw [getD_set hls, if_neg (by omega)] at h
        obtain ⟨v, hv1, hv2⟩ := hA2 h
        exact ⟨v, by simpa using hv1, hv2⟩⟩
    ·
      refine wpOp_step (o := { dst := some 43, op := Op.move (Operand.tmp 5), type := 3, pos := "law.go:25", after := #[{ on := 18, ground := Ground.guard }], guard := some (18, false) }) rfl ?_
      intro K hK
      have q39_ : a.tmps[39]? = some (.bool false) := hS.val 18 39 _ (hd 18 (of_decide_eq_true (by kernel_rfl))) rfl rfl
      have q5_ : a.tmps[5]? = some (.int .i64 r) := (hS.keep 5 (of_decide_eq_true (by kernel_rfl))).trans h5
      rw [if_pos (wanted_guard (j := 18) (d := 39) (b := false) rfl rfl q39_)]
      go_simp
      exact hK _ _ ⟨hS.put hn 22 43 _ rfl (by rw [hsz0]; omega) (fun u h => by injection h with h; injection h with h; exact h.symm), hb, fun h => by
        rw [getD_set hls, if_neg (by omega)] at h
        obtain ⟨v, hv1, hv2⟩ := hA1 h
        exact ⟨v, by simpa using hv1, hv2⟩, fun h => by
        rw [getD_set hls, if_neg (by omega)] at h
        obtain ⟨v, hv1, hv2⟩ := hA2 h
        exact ⟨v, by simpa using hv1, hv2⟩⟩
    ·
      refine wpOp_step (o := { dst := some 44, op := Op.call { callee := Callee.value (Operand.func 14), args := #[Operand.tmp 40, Operand.tmp 41, Operand.tmp 42, Operand.tmp 43], argTypes := #[26, 3, 3, 3] }, type := 23, pos := "law.go:25", after := #[{ on := 19, ground := Ground.data }, { on := 20, ground := Ground.data }, { on := 21, ground := Ground.data }, { on := 22, ground := Ground.data }, { on := 18, ground := Ground.chain }, { on := 18, ground := Ground.guard }], guard := some (18, false) }) rfl ?_
      intro K hK
      have q39_ : a.tmps[39]? = some (.bool false) := hS.val 18 39 _ (hd 18 (of_decide_eq_true (by kernel_rfl))) rfl rfl
      have q40_ : a.tmps[40]? = some (.agg #[.slice a1 n1 c1, .int .i64 gap, .int .i64 rad, .slice a2 n2 c2, .slice a3 n3 c3]) := hS.val 19 40 _ (hd 19 (of_decide_eq_true (by kernel_rfl))) rfl rfl
      have q41_ : a.tmps[41]? = some (.int .i64 aa) := hS.val 20 41 _ (hd 20 (of_decide_eq_true (by kernel_rfl))) rfl rfl
      have q42_ : a.tmps[42]? = some (.int .i64 b) := hS.val 21 42 _ (hd 21 (of_decide_eq_true (by kernel_rfl))) rfl rfl
      have q43_ : a.tmps[43]? = some (.int .i64 r) := hS.val 22 43 _ (hd 22 (of_decide_eq_true (by kernel_rfl))) rfl rfl
      rw [if_pos (wanted_guard (j := 18) (d := 39) (b := false) rfl rfl q39_)]
      have hc := hc23 w hb
      go_simp
      go_at_call 14
      refine hc.mono ?_
      rintro e w' ⟨v, rfl, hrow, hb2⟩
      have hs2 : 44 < a.tmps.size := by rw [hsz.out]; omega
      exact hK _ _ ⟨hS.put hn 23 44 _ rfl (by rw [hsz0]; omega) (fun u h => by cases h), hb.trans (hb2.mono hb.size), fun h => ⟨v, by simp [hs2], row_base hrow hb.size⟩, fun h => by
        rw [getD_set hls, if_neg (by omega)] at h
        obtain ⟨v, hv1, hv2⟩ := hA2 h
        exact ⟨v, by simpa using hv1, hv2.next hb2⟩⟩
    ·
      refine wpOp_step (o := { dst := some 45, op := Op.load 26 (Operand.tmp 6), type := 26, pos := "law.go:25", after := #[{ on := 18, ground := Ground.guard }], guard := some (18, false) }) rfl ?_
      intro K hK
      have q39_ : a.tmps[39]? = some (.bool false) := hS.val 18 39 _ (hd 18 (of_decide_eq_true (by kernel_rfl))) rfl rfl
      have q6_ : a.tmps[6]? = some (.pointer (some ⟨vb, 0, none⟩)) := (hS.keep 6 (of_decide_eq_true (by kernel_rfl))).trans h6
      rw [if_pos (wanted_guard (j := 18) (d := 39) (b := false) rfl rfl q39_)]
      have m0 := (hx.next hb).cell 0 _ rfl
      have m1 := (hx.next hb).cell 1 _ rfl
      have m2 := (hx.next hb).cell 2 _ rfl
      have m3 := (hx.next hb).cell 3 _ rfl
      have m4 := (hx.next hb).cell 4 _ rfl
      go_simp
      exact hK _ _ ⟨hS.put hn 24 45 _ rfl (by rw [hsz0]; omega) (fun u h => by injection h with h; injection h with h; exact h.symm), hb, fun h => by
        rw [getD_set hls, if_neg (by omega)] at h
        obtain ⟨v, hv1, hv2⟩ := hA1 h
        exact ⟨v, by simpa using hv1, hv2⟩, fun h => by
        rw [getD_set hls, if_neg (by omega)] at h
        obtain ⟨v, hv1, hv2⟩ := hA2 h
        exact ⟨v, by simpa using hv1, hv2⟩⟩
    ·
      refine wpOp_step (o := { dst := some 46, op := Op.move (Operand.tmp 3), type := 3, pos := "law.go:25", after := #[{ on := 18, ground := Ground.guard }], guard := some (18, false) }) rfl ?_
      intro K hK
      have q39_ : a.tmps[39]? = some (.bool false) := hS.val 18 39 _ (hd 18 (of_decide_eq_true (by kernel_rfl))) rfl rfl
      have q3_ : a.tmps[3]? = some (.int .i64 aa) := (hS.keep 3 (of_decide_eq_true (by kernel_rfl))).trans h3
      rw [if_pos (wanted_guard (j := 18) (d := 39) (b := false) rfl rfl q39_)]
      go_simp
      exact hK _ _ ⟨hS.put hn 25 46 _ rfl (by rw [hsz0]; omega) (fun u h => by injection h with h; injection h with h; exact h.symm), hb, fun h => by
        rw [getD_set hls, if_neg (by omega)] at h
        obtain ⟨v, hv1, hv2⟩ := hA1 h
        exact ⟨v, by simpa using hv1, hv2⟩, fun h => by
        rw [getD_set hls, if_neg (by omega)] at h
        obtain ⟨v, hv1, hv2⟩ := hA2 h
        exact ⟨v, by simpa using hv1, hv2⟩⟩
    ·
      refine wpOp_step (o := { dst := some 47, op := Op.move (Operand.tmp 4), type := 3, pos := "law.go:25", after := #[{ on := 18, ground := Ground.guard }], guard := some (18, false) }) rfl ?_
      intro K hK
      have q39_ : a.tmps[39]? = some (.bool false) := hS.val 18 39 _ (hd 18 (of_decide_eq_true (by kernel_rfl))) rfl rfl
      have q4_ : a.tmps[4]? = some (.int .i64 b) := (hS.keep 4 (of_decide_eq_true (by kernel_rfl))).trans h4
      rw [if_pos (wanted_guard (j := 18) (d := 39) (b := false) rfl rfl q39_)]
      go_simp
      exact hK _ _ ⟨hS.put hn 26 47 _ rfl (by rw [hsz0]; omega) (fun u h => by injection h with h; injection h with h; exact h.symm), hb, fun h => by
        rw [getD_set hls, if_neg (by omega)] at h
        obtain ⟨v, hv1, hv2⟩ := hA1 h
        exact ⟨v, by simpa using hv1, hv2⟩, fun h => by
        rw [getD_set hls, if_neg (by omega)] at h
        obtain ⟨v, hv1, hv2⟩ := hA2 h
        exact ⟨v, by simpa using hv1, hv2⟩⟩
    ·
      refine wpOp_step (o := { dst := some 48, op := Op.move (Operand.tmp 5), type := 3, pos := "law.go:25", after := #[{ on := 18, ground := Ground.guard }], guard := some (18, false) }) rfl ?_
      intro K hK
      have q39_ : a.tmps[39]? = some (.bool false) := hS.val 18 39 _ (hd 18 (of_decide_eq_true (by kernel_rfl))) rfl rfl
      have q5_ : a.tmps[5]? = some (.int .i64 r) := (hS.keep 5 (of_decide_eq_true (by kernel_rfl))).trans h5
      rw [if_pos (wanted_guard (j := 18) (d := 39) (b := false) rfl rfl q39_)]
      go_simp
      exact hK _ _ ⟨hS.put hn 27 48 _ rfl (by rw [hsz0]; omega) (fun u h => by injection h with h; injection h with h; exact h.symm), hb, fun h => by
        rw [getD_set hls, if_neg (by omega)] at h
        obtain ⟨v, hv1, hv2⟩ := hA1 h
        exact ⟨v, by simpa using hv1, hv2⟩, fun h => by
        rw [getD_set hls, if_neg (by omega)] at h
        obtain ⟨v, hv1, hv2⟩ := hA2 h
        exact ⟨v, by simpa using hv1, hv2⟩⟩
    ·
      refine wpOp_step (o := { dst := some 49, op := Op.call { callee := Callee.value (Operand.func 15), args := #[Operand.tmp 45, Operand.tmp 46, Operand.tmp 47, Operand.tmp 48], argTypes := #[26, 3, 3, 3] }, type := 23, pos := "law.go:25", after := #[{ on := 24, ground := Ground.data }, { on := 25, ground := Ground.data }, { on := 26, ground := Ground.data }, { on := 27, ground := Ground.data }, { on := 23, ground := Ground.chain }, { on := 18, ground := Ground.guard }], guard := some (18, false) }) rfl ?_
      intro K hK
      have q39_ : a.tmps[39]? = some (.bool false) := hS.val 18 39 _ (hd 18 (of_decide_eq_true (by kernel_rfl))) rfl rfl
      have q45_ : a.tmps[45]? = some (.agg #[.slice a1 n1 c1, .int .i64 gap, .int .i64 rad, .slice a2 n2 c2, .slice a3 n3 c3]) := hS.val 24 45 _ (hd 24 (of_decide_eq_true (by kernel_rfl))) rfl rfl
      have q46_ : a.tmps[46]? = some (.int .i64 aa) := hS.val 25 46 _ (hd 25 (of_decide_eq_true (by kernel_rfl))) rfl rfl
      have q47_ : a.tmps[47]? = some (.int .i64 b) := hS.val 26 47 _ (hd 26 (of_decide_eq_true (by kernel_rfl))) rfl rfl
      have q48_ : a.tmps[48]? = some (.int .i64 r) := hS.val 27 48 _ (hd 27 (of_decide_eq_true (by kernel_rfl))) rfl rfl
      rw [if_pos (wanted_guard (j := 18) (d := 39) (b := false) rfl rfl q39_)]
      have hc := hc28 w hb
      go_simp
      go_at_call 15
      refine hc.mono ?_
      rintro e w' ⟨v, rfl, hrow, hb2⟩
      have hs2 : 49 < a.tmps.size := by rw [hsz.out]; omega
      exact hK _ _ ⟨hS.put hn 28 49 _ rfl (by rw [hsz0]; omega) (fun u h => by cases h), hb.trans (hb2.mono hb.size), fun h => by
        rw [getD_set hls, if_neg (by omega)] at h
        obtain ⟨v, hv1, hv2⟩ := hA1 h
        exact ⟨v, by simpa using hv1, hv2.next hb2⟩, fun h => ⟨v, by simp [hs2], row_base hrow hb.size⟩⟩
    ·
      refine wpOp_step (o := { dst := some 50, op := Op.call { callee := Callee.value (Operand.func 13), args := #[Operand.tmp 44, Operand.tmp 49], argTypes := #[23, 23] }, type := 4, pos := "law.go:25", after := #[{ on := 23, ground := Ground.data }, { on := 28, ground := Ground.data }, { on := 28, ground := Ground.chain }, { on := 18, ground := Ground.guard }], guard := some (18, false) }) rfl ?_
      intro K hK
      have q39_ : a.tmps[39]? = some (.bool false) := hS.val 18 39 _ (hd 18 (of_decide_eq_true (by kernel_rfl))) rfl rfl
      rw [if_pos (wanted_guard (j := 18) (d := 39) (b := false) rfl rfl q39_)]
      obtain ⟨v1, hv1, hi1⟩ := hA1 (hd 23 (of_decide_eq_true (by kernel_rfl)))
      obtain ⟨v2, hv2, hi2⟩ := hA2 (hd 28 (of_decide_eq_true (by kernel_rfl)))
      have hc := same_any L L v1 v2 w hi1.sl hi2.sl
      rw [decide_eq_true (rfl : L = L)] at hc
      go_simp
      go_at_call 13
      refine hc.mono ?_
      rintro e w' ⟨rfl, hb2⟩
      exact hK _ _ ⟨hS.put hn 29 50 _ rfl (by rw [hsz0]; omega) (fun u h => by injection h with h; injection h with h; exact h.symm), hb.trans (hb2.mono hb.size), fun h => by
        rw [getD_set hls, if_neg (by omega)] at h
        obtain ⟨v, hv1, hv2⟩ := hA1 h
        exact ⟨v, by simpa using hv1, hv2.next hb2⟩, fun h => by
        rw [getD_set hls, if_neg (by omega)] at h
        obtain ⟨v, hv1, hv2⟩ := hA2 h
        exact ⟨v, by simpa using hv1, hv2.next hb2⟩⟩
    ·
      refine wpOp_step (o := { dst := some 51, op := Op.unOp UnOp.not 4 (Operand.tmp 50), type := 4, pos := "law.go:25", after := #[{ on := 29, ground := Ground.data }, { on := 18, ground := Ground.guard }], guard := some (18, false) }) rfl ?_
      intro K hK
      have q39_ : a.tmps[39]? = some (.bool false) := hS.val 18 39 _ (hd 18 (of_decide_eq_true (by kernel_rfl))) rfl rfl
      have q50_ : a.tmps[50]? = some (.bool true) := hS.val 29 50 _ (hd 29 (of_decide_eq_true (by kernel_rfl))) rfl rfl
      rw [if_pos (wanted_guard (j := 18) (d := 39) (b := false) rfl rfl q39_)]
      go_simp
      exact hK _ _ ⟨hS.put hn 30 51 _ rfl (by rw [hsz0]; omega) (fun u h => by injection h with h; injection h with h; exact h.symm), hb, fun h => by
        rw [getD_set hls, if_neg (by omega)] at h
        obtain ⟨v, hv1, hv2⟩ := hA1 h
        exact ⟨v, by simpa using hv1, hv2⟩, fun h => by
        rw [getD_set hls, if_neg (by omega)] at h
        obtain ⟨v, hv1, hv2⟩ := hA2 h
        exact ⟨v, by simpa using hv1, hv2⟩⟩
    ·
      refine wpOp_step (o := { dst := some 52, op := Op.pick (Operand.tmp 39) (Operand.const (Value.bool true)) (Operand.tmp 51), type := 4, pos := "law.go:25", after := #[{ on := 18, ground := Ground.data }, { on := 30, ground := Ground.data }], guard := none }) rfl ?_
      intro K hK
      have q39_ : a.tmps[39]? = some (.bool false) := hS.val 18 39 _ (hd 18 (of_decide_eq_true (by kernel_rfl))) rfl rfl
      have q51_ : a.tmps[51]? = some (.bool false) := hS.val 30 51 _ (hd 30 (of_decide_eq_true (by kernel_rfl))) rfl rfl
      go_simp
      exact hK _ _ ⟨hS.put hn 31 52 _ rfl (by rw [hsz0]; omega) (fun u h => by injection h with h; injection h with h; exact h.symm), hb, fun h => by
        rw [getD_set hls, if_neg (by omega)] at h
        obtain ⟨v, hv1, hv2⟩ := hA1 h
        exact ⟨v, by simpa using hv1, hv2⟩, fun h => by
        rw [getD_set hls, if_neg (by omega)] at h
        obtain ⟨v, hv1, hv2⟩ := hA2 h
        exact ⟨v, by simpa using hv1, hv2⟩⟩
  · intro listed a w hall ⟨hS, hb, hA1, hA2⟩
    obtain ⟨v1, hv1, hi1⟩ := hA1 (hall 23 (by decide))
    obtain ⟨v2, hv2, hi2⟩ := hA2 (hall 28 (by decide))
    have hf := hS.frame [(21, .agg #[.int .i64 p0, .int .i64 p1, .int .i64 p2, .int .i64 p3]), (22, .agg #[.int .i64 q0, .int .i64 q1, .int .i64 q2, .int .i64 q3]), (23, .int .i64 D), (24, .agg #[.int .i64 p0, .int .i64 p1, .int .i64 p2, .int .i64 p3]), (25, .agg #[.int .i64 q0, .int .i64 q1, .int .i64 q2, .int .i64 q3]), (26, .int .i64 D), (27, .bool false), (28, .bool false), (29, .agg #[.slice a1 n1 c1, .int .i64 gap, .int .i64 rad, .slice a2 n2 c2, .slice a3 n3 c3]), (30, .int .i64 aa), (31, .int .i64 b), (32, .bool C), (33, .agg #[.slice a1 n1 c1, .int .i64 gap, .int .i64 rad, .slice a2 n2 c2, .slice a3 n3 c3]), (34, .int .i64 aa), (35, .int .i64 b), (36, .bool C), (37, .bool false), (38, .bool false), (39, .bool false), (40, .agg #[.slice a1 n1 c1, .int .i64 gap, .int .i64 rad, .slice a2 n2 c2, .slice a3 n3 c3]), (41, .int .i64 aa), (42, .int .i64 b), (43, .int .i64 r), (44, v1), (45, .agg #[.slice a1 n1 c1, .int .i64 gap, .int .i64 rad, .slice a2 n2 c2, .slice a3 n3 c3]), (46, .int .i64 aa), (47, .int .i64 b), (48, .int .i64 r), (49, v2), (50, .bool true), (51, .bool false), (52, .bool false)] rfl (of_decide_eq_true (by kernel_rfl)) (by
      simp only [List.map_cons, List.map_nil, List.all_cons, List.all_nil, hsz0]; rfl) (by
      intro p hp
      simp only [List.mem_cons, List.not_mem_nil, or_false] at hp
      rcases hp with rfl | rfl | rfl | rfl | rfl | rfl | rfl | rfl | rfl | rfl | rfl | rfl | rfl | rfl | rfl | rfl | rfl | rfl | rfl | rfl | rfl | rfl | rfl | rfl | rfl | rfl | rfl | rfl | rfl | rfl | rfl | rfl
      · exact hS.val 0 21 _ (hall 0 (by decide)) rfl rfl
      · exact hS.val 1 22 _ (hall 1 (by decide)) rfl rfl
      · exact hS.val 2 23 _ (hall 2 (by decide)) rfl rfl
      · exact hS.val 3 24 _ (hall 3 (by decide)) rfl rfl
      · exact hS.val 4 25 _ (hall 4 (by decide)) rfl rfl
      · exact hS.val 5 26 _ (hall 5 (by decide)) rfl rfl
      · exact hS.val 6 27 _ (hall 6 (by decide)) rfl rfl
      · exact hS.val 7 28 _ (hall 7 (by decide)) rfl rfl
      · exact hS.val 8 29 _ (hall 8 (by decide)) rfl rfl
      · exact hS.val 9 30 _ (hall 9 (by decide)) rfl rfl
      · exact hS.val 10 31 _ (hall 10 (by decide)) rfl rfl
      · exact hS.val 11 32 _ (hall 11 (by decide)) rfl rfl
      · exact hS.val 12 33 _ (hall 12 (by decide)) rfl rfl
      · exact hS.val 13 34 _ (hall 13 (by decide)) rfl rfl
      · exact hS.val 14 35 _ (hall 14 (by decide)) rfl rfl
      · exact hS.val 15 36 _ (hall 15 (by decide)) rfl rfl
      · exact hS.val 16 37 _ (hall 16 (by decide)) rfl rfl
      · exact hS.val 17 38 _ (hall 17 (by decide)) rfl rfl
      · exact hS.val 18 39 _ (hall 18 (by decide)) rfl rfl
      · exact hS.val 19 40 _ (hall 19 (by decide)) rfl rfl
      · exact hS.val 20 41 _ (hall 20 (by decide)) rfl rfl
      · exact hS.val 21 42 _ (hall 21 (by decide)) rfl rfl
      · exact hS.val 22 43 _ (hall 22 (by decide)) rfl rfl
      · exact hv1
      · exact hS.val 24 45 _ (hall 24 (by decide)) rfl rfl
      · exact hS.val 25 46 _ (hall 25 (by decide)) rfl rfl
      · exact hS.val 26 47 _ (hall 26 (by decide)) rfl rfl
      · exact hS.val 27 48 _ (hall 27 (by decide)) rfl rfl
      · exact hv2
      · exact hS.val 29 50 _ (hall 29 (by decide)) rfl rfl
      · exact hS.val 30 51 _ (hall 30 (by decide)) rfl rfl
      · exact hS.val 31 52 _ (hall 31 (by decide)) rfl rfl)
    rw [hf]
    exact hQ w v1 v2 hb
end Go.Proofs.Ytgpkdjhllekihaa.Geo
