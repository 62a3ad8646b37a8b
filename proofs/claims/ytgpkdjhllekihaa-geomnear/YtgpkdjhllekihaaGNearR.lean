/- GeomNear's statement with two calls of Near, which draws its order, by an invariant. -/
import Derived.Test.YtgpkdjhllekihaaGTold
namespace Go.Proofs.Ytgpkdjhllekihaa.Geo
set_option linter.unusedVariables false
set_option maxRecDepth 100000
open Go.RowKit Go.Shelf
open Go.Proofs.Ytgpkdjhllekihaa.Ven (Seat Pole Ven VenAt venV seatV Box SeatAt mixed below_alloc Slots wp_region_inv getD_set start_false putAll Slots.start slot_of)

set_option maxHeartbeats 8000000 in
theorem near_region {Q : Exit → Act → World → Prop} (a0 : Act) (W : World) (hsz0 : a0.tmps.size = 134) (vb sb so m c1 j : Nat) (a2 a3 : Option Addr) (n2 c2 n3 c3 : Nat) (gap rad p q r x y kk : Int) (L1 L2 : List Int) (hj : j < m)
    (h9 : a0.tmps[9]? = some (.pointer (some ⟨vb, 0, none⟩))) (h10 : a0.tmps[10]? = some (.int .i64 j)) (h11 : a0.tmps[11]? = some (.int .i64 p)) (h12 : a0.tmps[12]? = some (.int .i64 q))
    (hx : Box W vb 26 #[.slice (some ⟨sb, so, none⟩) m c1, .int .i64 gap, .int .i64 rad, .slice a2 n2 c2, .slice a3 n3 c3]) (hs : SeatAt W sb (so + j * 4) r x y kk)
    (hc1 : ∀ w, Below W.heap.size W w → Calls Try.prog 14 #[.agg #[.slice (some ⟨sb, so, none⟩) m c1, .int .i64 gap, .int .i64 rad, .slice a2 n2 c2, .slice a3 n3 c3], .int .i64 x, .int .i64 y, .int .i64 p] w fun e w' => ∃ v, e = .returned v ∧ Ints w.heap.size w' v L1 ∧ Below w.heap.size w w')
    (hc2 : ∀ w, Below W.heap.size W w → Calls Try.prog 14 #[.agg #[.slice (some ⟨sb, so, none⟩) m c1, .int .i64 gap, .int .i64 rad, .slice a2 n2 c2, .slice a3 n3 c3], .int .i64 x, .int .i64 y, .int .i64 q] w fun e w' => ∃ v, e = .returned v ∧ Ints w.heap.size w' v L2 ∧ Below w.heap.size w w')
    (hQ : ∀ w' v1 v2, Below W.heap.size W w' → Ints W.heap.size w' v1 L1 → Ints W.heap.size w' v2 L2 → Q .normal { tmps := putAll a0.tmps [(43, .agg #[.slice (some ⟨sb, so, none⟩) m c1, .int .i64 gap, .int .i64 rad, .slice a2 n2 c2, .slice a3 n3 c3]), (44, .pointer (some ⟨vb, 0, none⟩)), (45, .slice (some ⟨sb, so, none⟩) m c1), (46, .int .i64 j), (47, .pointer (some ⟨sb, so + j * 4, none⟩)), (48, .pointer (some ⟨sb, so + j * 4 + 1, none⟩)), (49, .int .i64 x), (50, .pointer (some ⟨vb, 0, none⟩)), (51, .slice (some ⟨sb, so, none⟩) m c1), (52, .int .i64 j), (53, .pointer (some ⟨sb, so + j * 4, none⟩)), (54, .pointer (some ⟨sb, so + j * 4 + 2, none⟩)), (55, .int .i64 y), (56, .int .i64 p), (57, v1), (58, .agg #[.slice (some ⟨sb, so, none⟩) m c1, .int .i64 gap, .int .i64 rad, .slice a2 n2 c2, .slice a3 n3 c3]), (59, .pointer (some ⟨vb, 0, none⟩)), (60, .slice (some ⟨sb, so, none⟩) m c1), (61, .int .i64 j), (62, .pointer (some ⟨sb, so + j * 4, none⟩)), (63, .pointer (some ⟨sb, so + j * 4 + 1, none⟩)), (64, .int .i64 x), (65, .pointer (some ⟨vb, 0, none⟩)), (66, .slice (some ⟨sb, so, none⟩) m c1), (67, .int .i64 j), (68, .pointer (some ⟨sb, so + j * 4, none⟩)), (69, .pointer (some ⟨sb, so + j * 4 + 2, none⟩)), (70, .int .i64 y), (71, .int .i64 q), (72, v2), (13, v1), (14, v2)], defers := a0.defers } w') :
    (Code.region 6 #[{ dst := some 43, op := Op.load 26 (Operand.tmp 9), type := 26, pos := "more.go:17", after := #[], guard := none }, { dst := some 44, op := Op.fieldAddr 26 (Operand.tmp 9) 0, type := 0, pos := "more.go:17", after := #[], guard := none }, { dst := some 45, op := Op.load 22 (Operand.tmp 44), type := 22, pos := "more.go:17", after := #[{ on := 1, ground := Ground.data }], guard := none }, { dst := some 46, op := Op.move (Operand.tmp 10), type := 3, pos := "more.go:17", after := #[], guard := none }, { dst := some 47, op := Op.indexAddr 22 (Operand.tmp 45) (Operand.tmp 46), type := 0, pos := "more.go:17", after := #[{ on := 2, ground := Ground.data }, { on := 3, ground := Ground.data }], guard := none }, { dst := some 48, op := Op.fieldAddr 28 (Operand.tmp 47) 1, type := 0, pos := "more.go:17", after := #[{ on := 4, ground := Ground.data }], guard := none }, { dst := some 49, op := Op.load 3 (Operand.tmp 48), type := 3, pos := "more.go:17", after := #[{ on := 5, ground := Ground.data }], guard := none }, { dst := some 50, op := Op.fieldAddr 26 (Operand.tmp 9) 0, type := 0, pos := "more.go:17", after := #[], guard := none }, { dst := some 51, op := Op.load 22 (Operand.tmp 50), type := 22, pos := "more.go:17", after := #[{ on := 7, ground := Ground.data }], guard := none }, { dst := some 52, op := Op.move (Operand.tmp 10), type := 3, pos := "more.go:17", after := #[], guard := none }, { dst := some 53, op := Op.indexAddr 22 (Operand.tmp 51) (Operand.tmp 52), type := 0, pos := "more.go:17", after := #[{ on := 8, ground := Ground.data }, { on := 9, ground := Ground.data }], guard := none }, { dst := some 54, op := Op.fieldAddr 28 (Operand.tmp 53) 2, type := 0, pos := "more.go:17", after := #[{ on := 10, ground := Ground.data }], guard := none }, { dst := some 55, op := Op.load 3 (Operand.tmp 54), type := 3, pos := "more.go:17", after := #[{ on := 11, ground := Ground.data }], guard := none }, { dst := some 56, op := Op.move (Operand.tmp 11), type := 3, pos := "more.go:17", after := #[], guard := none }, { dst := some 57, op := Op.call { callee := Callee.value (Operand.func 14), args := #[Operand.tmp 43, Operand.tmp 49, Operand.tmp 55, Operand.tmp 56], argTypes := #[26, 3, 3, 3] }, type := 23, pos := "more.go:17", after := #[{ on := 0, ground := Ground.data }, { on := 6, ground := Ground.data }, { on := 12, ground := Ground.data }, { on := 13, ground := Ground.data }], guard := none }, { dst := some 58, op := Op.load 26 (Operand.tmp 9), type := 26, pos := "more.go:17", after := #[], guard := none }, { dst := some 59, op := Op.fieldAddr 26 (Operand.tmp 9) 0, type := 0, pos := "more.go:17", after := #[], guard := none }, { dst := some 60, op := Op.load 22 (Operand.tmp 59), type := 22, pos := "more.go:17", after := #[{ on := 16, ground := Ground.data }], guard := none }, { dst := some 61, op := Op.move (Operand.tmp 10), type := 3, pos := "more.go:17", after := #[], guard := none }, { dst := some 62, op := Op.indexAddr 22 (Operand.tmp 60) (Operand.tmp 61), type := 0, pos := "more.go:17", after := #[{ on := 17, ground := Ground.data }, { on := 18, ground := Ground.data }], guard := none }, { dst := some 63, op := Op.fieldAddr 28 (Operand.tmp 62) 1, type := 0, pos := "more.go:17", after := #[{ on := 19, ground := Ground.data }], guard := none }, { dst := some 64, op := Op.load 3 (Operand.tmp 63), type := 3, pos := "more.go:17", after := #[{ on := 20, ground := Ground.data }], guard := none }, { dst := some 65, op := Op.fieldAddr 26 (Operand.tmp 9) 0, type := 0, pos := "more.go:17", after := #[], guard := none }, { dst := some 66, op := Op.load 22 (Operand.tmp 65), type := 22, pos := "more.go:17", after := #[{ on := 22, ground := Ground.data }], guard := none }, { dst := some 67, op := Op.move (Operand.tmp 10), type := 3, pos := "more.go:17", after := #[], guard := none }, { dst := some 68, op := Op.indexAddr 22 (Operand.tmp 66) (Operand.tmp 67), type := 0, pos := "more.go:17", after := #[{ on := 23, ground := Ground.data }, { on := 24, ground := Ground.data }], guard := none }, { dst := some 69, op := Op.fieldAddr 28 (Operand.tmp 68) 2, type := 0, pos := "more.go:17", after := #[{ on := 25, ground := Ground.data }], guard := none }, { dst := some 70, op := Op.load 3 (Operand.tmp 69), type := 3, pos := "more.go:17", after := #[{ on := 26, ground := Ground.data }], guard := none }, { dst := some 71, op := Op.move (Operand.tmp 12), type := 3, pos := "more.go:17", after := #[], guard := none }, { dst := some 72, op := Op.call { callee := Callee.value (Operand.func 14), args := #[Operand.tmp 58, Operand.tmp 64, Operand.tmp 70, Operand.tmp 71], argTypes := #[26, 3, 3, 3] }, type := 23, pos := "more.go:17", after := #[{ on := 15, ground := Ground.data }, { on := 21, ground := Ground.data }, { on := 27, ground := Ground.data }, { on := 28, ground := Ground.data }, { on := 14, ground := Ground.chain }], guard := none }, { dst := some 13, op := Op.assign (Operand.tmp 57), type := 23, pos := "more.go:17", after := #[{ on := 14, ground := Ground.data }, { on := 29, ground := Ground.chain }, { on := 0, ground := Ground.phase }, { on := 1, ground := Ground.phase }, { on := 2, ground := Ground.phase }, { on := 3, ground := Ground.phase }, { on := 4, ground := Ground.phase }, { on := 5, ground := Ground.phase }, { on := 6, ground := Ground.phase }, { on := 7, ground := Ground.phase }, { on := 8, ground := Ground.phase }, { on := 9, ground := Ground.phase }, { on := 10, ground := Ground.phase }, { on := 11, ground := Ground.phase }, { on := 12, ground := Ground.phase }, { on := 13, ground := Ground.phase }, { on := 14, ground := Ground.phase }, { on := 15, ground := Ground.textOnly Departure.lateStores }, { on := 16, ground := Ground.textOnly Departure.lateStores }, { on := 17, ground := Ground.textOnly Departure.lateStores }, { on := 18, ground := Ground.textOnly Departure.lateStores }, { on := 19, ground := Ground.textOnly Departure.lateStores }, { on := 20, ground := Ground.textOnly Departure.lateStores }, { on := 21, ground := Ground.textOnly Departure.lateStores }, { on := 22, ground := Ground.textOnly Departure.lateStores }, { on := 23, ground := Ground.textOnly Departure.lateStores }, { on := 24, ground := Ground.textOnly Departure.lateStores }, { on := 25, ground := Ground.textOnly Departure.lateStores }, { on := 26, ground := Ground.textOnly Departure.lateStores }, { on := 27, ground := Ground.textOnly Departure.lateStores }, { on := 28, ground := Ground.textOnly Departure.lateStores }, { on := 29, ground := Ground.textOnly Departure.lateStoresUnsure }], guard := none }, { dst := some 14, op := Op.assign (Operand.tmp 72), type := 23, pos := "more.go:17", after := #[{ on := 29, ground := Ground.data }, { on := 30, ground := Ground.chain }, { on := 0, ground := Ground.phase }, { on := 1, ground := Ground.phase }, { on := 2, ground := Ground.phase }, { on := 3, ground := Ground.phase }, { on := 4, ground := Ground.phase }, { on := 5, ground := Ground.phase }, { on := 6, ground := Ground.phase }, { on := 7, ground := Ground.phase }, { on := 8, ground := Ground.phase }, { on := 9, ground := Ground.phase }, { on := 10, ground := Ground.phase }, { on := 11, ground := Ground.phase }, { on := 12, ground := Ground.phase }, { on := 13, ground := Ground.phase }, { on := 14, ground := Ground.phase }, { on := 15, ground := Ground.phase }, { on := 16, ground := Ground.phase }, { on := 17, ground := Ground.phase }, { on := 18, ground := Ground.phase }, { on := 19, ground := Ground.phase }, { on := 20, ground := Ground.phase }, { on := 21, ground := Ground.phase }, { on := 22, ground := Ground.phase }, { on := 23, ground := Ground.phase }, { on := 24, ground := Ground.phase }, { on := 25, ground := Ground.phase }, { on := 26, ground := Ground.phase }, { on := 27, ground := Ground.phase }, { on := 28, ground := Ground.phase }, { on := 29, ground := Ground.phase }, { on := 30, ground := Ground.phase }], guard := none }] true).wp Try.prog Q a0 W := by
  have hn : ([some 43, some 44, some 45, some 46, some 47, some 48, some 49, some 50, some 51, some 52, some 53, some 54, some 55, some 56, some 57, some 58, some 59, some 60, some 61, some 62, some 63, some 64, some 65, some 66, some 67, some 68, some 69, some 70, some 71, some 72, some 13, some 14] : List (Option Nat)).Pairwise (fun x y => x = none ∨ x ≠ y) := of_decide_eq_true (by kernel_rfl)
  have hjz : (j : Int) < (m : Int) := by omega
  refine wp_region_inv mixed (fun listed a w => Slots a0 [some 43, some 44, some 45, some 46, some 47, some 48, some 49, some 50, some 51, some 52, some 53, some 54, some 55, some 56, some 57, some 58, some 59, some 60, some 61, some 62, some 63, some 64, some 65, some 66, some 67, some 68, some 69, some 70, some 71, some 72, some 13, some 14] [some (.agg #[.slice (some ⟨sb, so, none⟩) m c1, .int .i64 gap, .int .i64 rad, .slice a2 n2 c2, .slice a3 n3 c3]), some (.pointer (some ⟨vb, 0, none⟩)), some (.slice (some ⟨sb, so, none⟩) m c1), some (.int .i64 j), some (.pointer (some ⟨sb, so + j * 4, none⟩)), some (.pointer (some ⟨sb, so + j * 4 + 1, none⟩)), some (.int .i64 x), some (.pointer (some ⟨vb, 0, none⟩)), some (.slice (some ⟨sb, so, none⟩) m c1), some (.int .i64 j), some (.pointer (some ⟨sb, so + j * 4, none⟩)), some (.pointer (some ⟨sb, so + j * 4 + 2, none⟩)), some (.int .i64 y), some (.int .i64 p), none, some (.agg #[.slice (some ⟨sb, so, none⟩) m c1, .int .i64 gap, .int .i64 rad, .slice a2 n2 c2, .slice a3 n3 c3]), some (.pointer (some ⟨vb, 0, none⟩)), some (.slice (some ⟨sb, so, none⟩) m c1), some (.int .i64 j), some (.pointer (some ⟨sb, so + j * 4, none⟩)), some (.pointer (some ⟨sb, so + j * 4 + 1, none⟩)), some (.int .i64 x), some (.pointer (some ⟨vb, 0, none⟩)), some (.slice (some ⟨sb, so, none⟩) m c1), some (.int .i64 j), some (.pointer (some ⟨sb, so + j * 4, none⟩)), some (.pointer (some ⟨sb, so + j * 4 + 2, none⟩)), some (.int .i64 y), some (.int .i64 q), none, none, none] listed a ∧ Below W.heap.size W w ∧ (listed.getD 14 false = true → ∃ v, a.tmps[57]? = some v ∧ Ints W.heap.size w v L1 ∧ (listed.getD 30 false = true → a.tmps[13]? = some v)) ∧ (listed.getD 29 false = true → ∃ v, a.tmps[72]? = some v ∧ Ints W.heap.size w v L2 ∧ (listed.getD 31 false = true → a.tmps[14]? = some v))) (by kernel_rfl) ?_ ?_ ?_
  · exact ⟨Slots.start _ _ _ _, (Below.refl _ W).drew, fun h => (by rw [start_false] at h; cases h), fun h => (by rw [start_false] at h; cases h)⟩
  · intro listed a w i' hsl hilt hl hd hcl ⟨hS, hb, hA1, hA2⟩
    have hsz : Hid (a.tmps.size = 134) := hS.size.trans hsz0
    have hls : i' < listed.size := by rw [hsl]; exact hilt
    have hcase : i' = 0 ∨ i' = 1 ∨ i' = 2 ∨ i' = 3 ∨ i' = 4 ∨ i' = 5 ∨ i' = 6 ∨ i' = 7 ∨ i' = 8 ∨ i' = 9 ∨ i' = 10 ∨ i' = 11 ∨ i' = 12 ∨ i' = 13 ∨ i' = 14 ∨ i' = 15 ∨ i' = 16 ∨ i' = 17 ∨ i' = 18 ∨ i' = 19 ∨ i' = 20 ∨ i' = 21 ∨ i' = 22 ∨ i' = 23 ∨ i' = 24 ∨ i' = 25 ∨ i' = 26 ∨ i' = 27 ∨ i' = 28 ∨ i' = 29 ∨ i' = 30 ∨ i' = 31 := by
      have : i' < 32 := hilt
      omega
    rcases hcase with rfl | rfl | rfl | rfl | rfl | rfl | rfl | rfl | rfl | rfl | rfl | rfl | rfl | rfl | rfl | rfl | rfl | rfl | rfl | rfl | rfl | rfl | rfl | rfl | rfl | rfl | rfl | rfl | rfl | rfl | rfl | rfl
    ·
      refine wpOp_step (o := { dst := some 43, op := Op.load 26 (Operand.tmp 9), type := 26, pos := "more.go:17", after := #[], guard := none }) rfl ?_
      intro K hK
      have q9 : a.tmps[9]? = some (.pointer (some ⟨vb, 0, none⟩)) := (hS.keep 9 (of_decide_eq_true (by kernel_rfl))).trans h9
      have m0 := (hx.next hb).cell 0 _ rfl
      have m1 := (hx.next hb).cell 1 _ rfl
      have m2 := (hx.next hb).cell 2 _ rfl
      have m3 := (hx.next hb).cell 3 _ rfl
      have m4 := (hx.next hb).cell 4 _ rfl
      go_simp
      exact hK _ _ ⟨hS.put hn 0 43 _ rfl (by rw [hsz0]; omega) (fun u h => by injection h with h; injection h with h; exact h.symm), hb, fun h => by
        rw [getD_set hls, if_neg (by omega)] at h
        obtain ⟨v, hv1, hv2, hv3⟩ := hA1 h
        refine ⟨v, by simpa using hv1, hv2, fun h' => ?_⟩
        rw [getD_set hls, if_neg (by omega)] at h'
        simpa using hv3 h', fun h => by
        rw [getD_set hls, if_neg (by omega)] at h
        obtain ⟨v, hv1, hv2, hv3⟩ := hA2 h
        refine ⟨v, by simpa using hv1, hv2, fun h' => ?_⟩
        rw [getD_set hls, if_neg (by omega)] at h'
        simpa using hv3 h'⟩
    ·
      refine wpOp_step (o := { dst := some 44, op := Op.fieldAddr 26 (Operand.tmp 9) 0, type := 0, pos := "more.go:17", after := #[], guard := none }) rfl ?_
      intro K hK
      have q9 : a.tmps[9]? = some (.pointer (some ⟨vb, 0, none⟩)) := (hS.keep 9 (of_decide_eq_true (by kernel_rfl))).trans h9
      have ml := (hx.next hb).lt
      have m0 := (hx.next hb).cell 0 _ rfl
      go_simp
      exact hK _ _ ⟨hS.put hn 1 44 _ rfl (by rw [hsz0]; omega) (fun u h => by injection h with h; injection h with h; exact h.symm), hb, fun h => by
        rw [getD_set hls, if_neg (by omega)] at h
        obtain ⟨v, hv1, hv2, hv3⟩ := hA1 h
        refine ⟨v, by simpa using hv1, hv2, fun h' => ?_⟩
        rw [getD_set hls, if_neg (by omega)] at h'
        simpa using hv3 h', fun h => by
        rw [getD_set hls, if_neg (by omega)] at h
        obtain ⟨v, hv1, hv2, hv3⟩ := hA2 h
        refine ⟨v, by simpa using hv1, hv2, fun h' => ?_⟩
        rw [getD_set hls, if_neg (by omega)] at h'
        simpa using hv3 h'⟩
    ·
      refine wpOp_step (o := { dst := some 45, op := Op.load 22 (Operand.tmp 44), type := 22, pos := "more.go:17", after := #[{ on := 1, ground := Ground.data }], guard := none }) rfl ?_
      intro K hK
      have q44 : a.tmps[44]? = some (.pointer (some ⟨vb, 0, none⟩)) := hS.val 1 44 _ (hd 1 (of_decide_eq_true (by kernel_rfl))) rfl rfl
      have m0 := (hx.next hb).cell 0 _ rfl
      go_simp
      exact hK _ _ ⟨hS.put hn 2 45 _ rfl (by rw [hsz0]; omega) (fun u h => by injection h with h; injection h with h; exact h.symm), hb, fun h => by
        rw [getD_set hls, if_neg (by omega)] at h
        obtain ⟨v, hv1, hv2, hv3⟩ := hA1 h
        refine ⟨v, by simpa using hv1, hv2, fun h' => ?_⟩
        rw [getD_set hls, if_neg (by omega)] at h'
        simpa using hv3 h', fun h => by
        rw [getD_set hls, if_neg (by omega)] at h
        obtain ⟨v, hv1, hv2, hv3⟩ := hA2 h
        refine ⟨v, by simpa using hv1, hv2, fun h' => ?_⟩
        rw [getD_set hls, if_neg (by omega)] at h'
        simpa using hv3 h'⟩
    ·
      refine wpOp_step (o := { dst := some 46, op := Op.move (Operand.tmp 10), type := 3, pos := "more.go:17", after := #[], guard := none }) rfl ?_
      intro K hK
      have q10 : a.tmps[10]? = some (.int .i64 j) := (hS.keep 10 (of_decide_eq_true (by kernel_rfl))).trans h10
      go_simp
      exact hK _ _ ⟨hS.put hn 3 46 _ rfl (by rw [hsz0]; omega) (fun u h => by injection h with h; injection h with h; exact h.symm), hb, fun h => by
        rw [getD_set hls, if_neg (by omega)] at h
        obtain ⟨v, hv1, hv2, hv3⟩ := hA1 h
        refine ⟨v, by simpa using hv1, hv2, fun h' => ?_⟩
        rw [getD_set hls, if_neg (by omega)] at h'
        simpa using hv3 h', fun h => by
        rw [getD_set hls, if_neg (by omega)] at h
        obtain ⟨v, hv1, hv2, hv3⟩ := hA2 h
        refine ⟨v, by simpa using hv1, hv2, fun h' => ?_⟩
        rw [getD_set hls, if_neg (by omega)] at h'
        simpa using hv3 h'⟩
    ·
      refine wpOp_step (o := { dst := some 47, op := Op.indexAddr 22 (Operand.tmp 45) (Operand.tmp 46), type := 0, pos := "more.go:17", after := #[{ on := 2, ground := Ground.data }, { on := 3, ground := Ground.data }], guard := none }) rfl ?_
      intro K hK
      have q45 : a.tmps[45]? = some (.slice (some ⟨sb, so, none⟩) m c1) := hS.val 2 45 _ (hd 2 (of_decide_eq_true (by kernel_rfl))) rfl rfl
      have q46 : a.tmps[46]? = some (.int .i64 j) := hS.val 3 46 _ (hd 3 (of_decide_eq_true (by kernel_rfl))) rfl rfl
      go_simp
      exact hK _ _ ⟨hS.put hn 4 47 _ rfl (by rw [hsz0]; omega) (fun u h => by injection h with h; injection h with h; exact h.symm), hb, fun h => by
        rw [getD_set hls, if_neg (by omega)] at h
        obtain ⟨v, hv1, hv2, hv3⟩ := hA1 h
        refine ⟨v, by simpa using hv1, hv2, fun h' => ?_⟩
        rw [getD_set hls, if_neg (by omega)] at h'
        simpa using hv3 h', fun h => by
        rw [getD_set hls, if_neg (by omega)] at h
        obtain ⟨v, hv1, hv2, hv3⟩ := hA2 h
        refine ⟨v, by simpa using hv1, hv2, fun h' => ?_⟩
        rw [getD_set hls, if_neg (by omega)] at h'
        simpa using hv3 h'⟩
    ·
      refine wpOp_step (o := { dst := some 48, op := Op.fieldAddr 28 (Operand.tmp 47) 1, type := 0, pos := "more.go:17", after := #[{ on := 4, ground := Ground.data }], guard := none }) rfl ?_
      intro K hK
      have q47 : a.tmps[47]? = some (.pointer (some ⟨sb, so + j * 4, none⟩)) := hS.val 4 47 _ (hd 4 (of_decide_eq_true (by kernel_rfl))) rfl rfl
      have ml := (hs.next hb).lt
      go_simp
      exact hK _ _ ⟨hS.put hn 5 48 _ rfl (by rw [hsz0]; omega) (fun u h => by injection h with h; injection h with h; exact h.symm), hb, fun h => by
        rw [getD_set hls, if_neg (by omega)] at h
        obtain ⟨v, hv1, hv2, hv3⟩ := hA1 h
        refine ⟨v, by simpa using hv1, hv2, fun h' => ?_⟩
        rw [getD_set hls, if_neg (by omega)] at h'
        simpa using hv3 h', fun h => by
        rw [getD_set hls, if_neg (by omega)] at h
        obtain ⟨v, hv1, hv2, hv3⟩ := hA2 h
        refine ⟨v, by simpa using hv1, hv2, fun h' => ?_⟩
        rw [getD_set hls, if_neg (by omega)] at h'
        simpa using hv3 h'⟩
    ·
      refine wpOp_step (o := { dst := some 49, op := Op.load 3 (Operand.tmp 48), type := 3, pos := "more.go:17", after := #[{ on := 5, ground := Ground.data }], guard := none }) rfl ?_
      intro K hK
      have q48 : a.tmps[48]? = some (.pointer (some ⟨sb, so + j * 4 + 1, none⟩)) := hS.val 5 48 _ (hd 5 (of_decide_eq_true (by kernel_rfl))) rfl rfl
      have m1 := (hs.next hb).c1
      have m2 := (hs.next hb).c2
      go_simp
      exact hK _ _ ⟨hS.put hn 6 49 _ rfl (by rw [hsz0]; omega) (fun u h => by injection h with h; injection h with h; exact h.symm), hb, fun h => by
        rw [getD_set hls, if_neg (by omega)] at h
        obtain ⟨v, hv1, hv2, hv3⟩ := hA1 h
        refine ⟨v, by simpa using hv1, hv2, fun h' => ?_⟩
        rw [getD_set hls, if_neg (by omega)] at h'
        simpa using hv3 h', fun h => by
        rw [getD_set hls, if_neg (by omega)] at h
        obtain ⟨v, hv1, hv2, hv3⟩ := hA2 h
        refine ⟨v, by simpa using hv1, hv2, fun h' => ?_⟩
        rw [getD_set hls, if_neg (by omega)] at h'
        simpa using hv3 h'⟩
    ·
      refine wpOp_step (o := { dst := some 50, op := Op.fieldAddr 26 (Operand.tmp 9) 0, type := 0, pos := "more.go:17", after := #[], guard := none }) rfl ?_
      intro K hK
      have q9 : a.tmps[9]? = some (.pointer (some ⟨vb, 0, none⟩)) := (hS.keep 9 (of_decide_eq_true (by kernel_rfl))).trans h9
      have ml := (hx.next hb).lt
      have m0 := (hx.next hb).cell 0 _ rfl
      go_simp
      exact hK _ _ ⟨hS.put hn 7 50 _ rfl (by rw [hsz0]; omega) (fun u h => by injection h with h; injection h with h; exact h.symm), hb, fun h => by
        rw [getD_set hls, if_neg (by omega)] at h
        obtain ⟨v, hv1, hv2, hv3⟩ := hA1 h
        refine ⟨v, by simpa using hv1, hv2, fun h' => ?_⟩
        rw [getD_set hls, if_neg (by omega)] at h'
        simpa using hv3 h', fun h => by
        rw [getD_set hls, if_neg (by omega)] at h
        obtain ⟨v, hv1, hv2, hv3⟩ := hA2 h
        refine ⟨v, by simpa using hv1, hv2, fun h' => ?_⟩
        rw [getD_set hls, if_neg (by omega)] at h'
        simpa using hv3 h'⟩
    ·
      refine wpOp_step (o := { dst := some 51, op := Op.load 22 (Operand.tmp 50), type := 22, pos := "more.go:17", after := #[{ on := 7, ground := Ground.data }], guard := none }) rfl ?_
      intro K hK
      have q50 : a.tmps[50]? = some (.pointer (some ⟨vb, 0, none⟩)) := hS.val 7 50 _ (hd 7 (of_decide_eq_true (by kernel_rfl))) rfl rfl
      have m0 := (hx.next hb).cell 0 _ rfl
      go_simp
      exact hK _ _ ⟨hS.put hn 8 51 _ rfl (by rw [hsz0]; omega) (fun u h => by injection h with h; injection h with h; exact h.symm), hb, fun h => by
        rw [getD_set hls, if_neg (by omega)] at h
        obtain ⟨v, hv1, hv2, hv3⟩ := hA1 h
        refine ⟨v, by simpa using hv1, hv2, fun h' => ?_⟩
        rw [getD_set hls, if_neg (by omega)] at h'
        simpa using hv3 h', fun h => by
        rw [getD_set hls, if_neg (by omega)] at h
        obtain ⟨v, hv1, hv2, hv3⟩ := hA2 h
        refine ⟨v, by simpa using hv1, hv2, fun h' => ?_⟩
        rw [getD_set hls, if_neg (by omega)] at h'
        simpa using hv3 h'⟩
    ·
      refine wpOp_step (o := { dst := some 52, op := Op.move (Operand.tmp 10), type := 3, pos := "more.go:17", after := #[], guard := none }) rfl ?_
      intro K hK
      have q10 : a.tmps[10]? = some (.int .i64 j) := (hS.keep 10 (of_decide_eq_true (by kernel_rfl))).trans h10
      go_simp
      exact hK _ _ ⟨hS.put hn 9 52 _ rfl (by rw [hsz0]; omega) (fun u h => by injection h with h; injection h with h; exact h.symm), hb, fun h => by
        rw [getD_set hls, if_neg (by omega)] at h
        obtain ⟨v, hv1, hv2, hv3⟩ := hA1 h
        refine ⟨v, by simpa using hv1, hv2, fun h' => ?_⟩
        rw [getD_set hls, if_neg (by omega)] at h'
        simpa using hv3 h', fun h => by
        rw [getD_set hls, if_neg (by omega)] at h
        obtain ⟨v, hv1, hv2, hv3⟩ := hA2 h
        refine ⟨v, by simpa using hv1, hv2, fun h' => ?_⟩
        rw [getD_set hls, if_neg (by omega)] at h'
        simpa using hv3 h'⟩
    ·
      refine wpOp_step (o := { dst := some 53, op := Op.indexAddr 22 (Operand.tmp 51) (Operand.tmp 52), type := 0, pos := "more.go:17", after := #[{ on := 8, ground := Ground.data }, { on := 9, ground := Ground.data }], guard := none }) rfl ?_
      intro K hK
      have q51 : a.tmps[51]? = some (.slice (some ⟨sb, so, none⟩) m c1) := hS.val 8 51 _ (hd 8 (of_decide_eq_true (by kernel_rfl))) rfl rfl
      have q52 : a.tmps[52]? = some (.int .i64 j) := hS.val 9 52 _ (hd 9 (of_decide_eq_true (by kernel_rfl))) rfl rfl
      go_simp
      exact hK _ _ ⟨hS.put hn 10 53 _ rfl (by rw [hsz0]; omega) (fun u h => by injection h with h; injection h with h; exact h.symm), hb, fun h => by
        rw [getD_set hls, if_neg (by omega)] at h
        obtain ⟨v, hv1, hv2, hv3⟩ := hA1 h
        refine ⟨v, by simpa using hv1, hv2, fun h' => ?_⟩
        rw [getD_set hls, if_neg (by omega)] at h'
        simpa using hv3 h', fun h => by
        rw [getD_set hls, if_neg (by omega)] at h
        obtain ⟨v, hv1, hv2, hv3⟩ := hA2 h
        refine ⟨v, by simpa using hv1, hv2, fun h' => ?_⟩
        rw [getD_set hls, if_neg (by omega)] at h'
        simpa using hv3 h'⟩
    ·
      refine wpOp_step (o := { dst := some 54, op := Op.fieldAddr 28 (Operand.tmp 53) 2, type := 0, pos := "more.go:17", after := #[{ on := 10, ground := Ground.data }], guard := none }) rfl ?_
      intro K hK
      have q53 : a.tmps[53]? = some (.pointer (some ⟨sb, so + j * 4, none⟩)) := hS.val 10 53 _ (hd 10 (of_decide_eq_true (by kernel_rfl))) rfl rfl
      have ml := (hs.next hb).lt
      go_simp
      exact hK _ _ ⟨hS.put hn 11 54 _ rfl (by rw [hsz0]; omega) (fun u h => by injection h with h; injection h with h; exact h.symm), hb, fun h => by
        rw [getD_set hls, if_neg (by omega)] at h
        obtain ⟨v, hv1, hv2, hv3⟩ := hA1 h
        refine ⟨v, by simpa using hv1, hv2, fun h' => ?_⟩
        rw [getD_set hls, if_neg (by omega)] at h'
        simpa using hv3 h', fun h => by
        rw [getD_set hls, if_neg (by omega)] at h
        obtain ⟨v, hv1, hv2, hv3⟩ := hA2 h
        refine ⟨v, by simpa using hv1, hv2, fun h' => ?_⟩
        rw [getD_set hls, if_neg (by omega)] at h'
        simpa using hv3 h'⟩
    ·
      refine wpOp_step (o := { dst := some 55, op := Op.load 3 (Operand.tmp 54), type := 3, pos := "more.go:17", after := #[{ on := 11, ground := Ground.data }], guard := none }) rfl ?_
      intro K hK
      have q54 : a.tmps[54]? = some (.pointer (some ⟨sb, so + j * 4 + 2, none⟩)) := hS.val 11 54 _ (hd 11 (of_decide_eq_true (by kernel_rfl))) rfl rfl
      have m1 := (hs.next hb).c1
      have m2 := (hs.next hb).c2
      go_simp
      exact hK _ _ ⟨hS.put hn 12 55 _ rfl (by rw [hsz0]; omega) (fun u h => by injection h with h; injection h with h; exact h.symm), hb, fun h => by
        rw [getD_set hls, if_neg (by omega)] at h
        obtain ⟨v, hv1, hv2, hv3⟩ := hA1 h
        refine ⟨v, by simpa using hv1, hv2, fun h' => ?_⟩
        rw [getD_set hls, if_neg (by omega)] at h'
        simpa using hv3 h', fun h => by
        rw [getD_set hls, if_neg (by omega)] at h
        obtain ⟨v, hv1, hv2, hv3⟩ := hA2 h
        refine ⟨v, by simpa using hv1, hv2, fun h' => ?_⟩
        rw [getD_set hls, if_neg (by omega)] at h'
        simpa using hv3 h'⟩
    ·
      refine wpOp_step (o := { dst := some 56, op := Op.move (Operand.tmp 11), type := 3, pos := "more.go:17", after := #[], guard := none }) rfl ?_
      intro K hK
      have q11 : a.tmps[11]? = some (.int .i64 p) := (hS.keep 11 (of_decide_eq_true (by kernel_rfl))).trans h11
      go_simp
      exact hK _ _ ⟨hS.put hn 13 56 _ rfl (by rw [hsz0]; omega) (fun u h => by injection h with h; injection h with h; exact h.symm), hb, fun h => by
        rw [getD_set hls, if_neg (by omega)] at h
        obtain ⟨v, hv1, hv2, hv3⟩ := hA1 h
        refine ⟨v, by simpa using hv1, hv2, fun h' => ?_⟩
        rw [getD_set hls, if_neg (by omega)] at h'
        simpa using hv3 h', fun h => by
        rw [getD_set hls, if_neg (by omega)] at h
        obtain ⟨v, hv1, hv2, hv3⟩ := hA2 h
        refine ⟨v, by simpa using hv1, hv2, fun h' => ?_⟩
        rw [getD_set hls, if_neg (by omega)] at h'
        simpa using hv3 h'⟩
    ·
      refine wpOp_step (o := { dst := some 57, op := Op.call { callee := Callee.value (Operand.func 14), args := #[Operand.tmp 43, Operand.tmp 49, Operand.tmp 55, Operand.tmp 56], argTypes := #[26, 3, 3, 3] }, type := 23, pos := "more.go:17", after := #[{ on := 0, ground := Ground.data }, { on := 6, ground := Ground.data }, { on := 12, ground := Ground.data }, { on := 13, ground := Ground.data }], guard := none }) rfl ?_
      intro K hK
      have q43 : a.tmps[43]? = some (.agg #[.slice (some ⟨sb, so, none⟩) m c1, .int .i64 gap, .int .i64 rad, .slice a2 n2 c2, .slice a3 n3 c3]) := hS.val 0 43 _ (hd 0 (of_decide_eq_true (by kernel_rfl))) rfl rfl
      have q49 : a.tmps[49]? = some (.int .i64 x) := hS.val 6 49 _ (hd 6 (of_decide_eq_true (by kernel_rfl))) rfl rfl
      have q55 : a.tmps[55]? = some (.int .i64 y) := hS.val 12 55 _ (hd 12 (of_decide_eq_true (by kernel_rfl))) rfl rfl
      have q56 : a.tmps[56]? = some (.int .i64 p) := hS.val 13 56 _ (hd 13 (of_decide_eq_true (by kernel_rfl))) rfl rfl
      have hc := hc1 w hb
      have h9 : listed.getD 30 false = false := by
        cases h : listed.getD 30 false with
        | false => rfl
        | true => have := hcl 30 14 h (of_decide_eq_true (by kernel_rfl)); rw [hl] at this; cases this
      go_simp
      go_at_call 14
      refine hc.mono ?_
      rintro e w' ⟨v, rfl, hrow, hb2⟩
      have hs2 : 57 < a.tmps.size := by rw [hsz.out]; omega
      refine hK _ _ ⟨hS.put hn 14 57 _ rfl (by rw [hsz0]; omega) (fun u h => by cases h), hb.trans (hb2.mono hb.size), fun h => ⟨v, ?_, row_base hrow hb.size, fun h' => ?_⟩, fun h => by
        rw [getD_set hls, if_neg (by omega)] at h
        obtain ⟨v, hv1, hv2, hv3⟩ := hA2 h
        refine ⟨v, by simpa using hv1, hv2.next hb2, fun h' => ?_⟩
        rw [getD_set hls, if_neg (by omega)] at h'
        simpa using hv3 h'⟩
      · simp [hs2]
      · rw [getD_set hls, if_neg (by omega), h9] at h'; cases h'
    ·
      refine wpOp_step (o := { dst := some 58, op := Op.load 26 (Operand.tmp 9), type := 26, pos := "more.go:17", after := #[], guard := none }) rfl ?_
      intro K hK
      have q9 : a.tmps[9]? = some (.pointer (some ⟨vb, 0, none⟩)) := (hS.keep 9 (of_decide_eq_true (by kernel_rfl))).trans h9
      have m0 := (hx.next hb).cell 0 _ rfl
      have m1 := (hx.next hb).cell 1 _ rfl
      have m2 := (hx.next hb).cell 2 _ rfl
      have m3 := (hx.next hb).cell 3 _ rfl
      have m4 := (hx.next hb).cell 4 _ rfl
      go_simp
      exact hK _ _ ⟨hS.put hn 15 58 _ rfl (by rw [hsz0]; omega) (fun u h => by injection h with h; injection h with h; exact h.symm), hb, fun h => by
        rw [getD_set hls, if_neg (by omega)] at h
        obtain ⟨v, hv1, hv2, hv3⟩ := hA1 h
        refine ⟨v, by simpa using hv1, hv2, fun h' => ?_⟩
        rw [getD_set hls, if_neg (by omega)] at h'
        simpa using hv3 h', fun h => by
        rw [getD_set hls, if_neg (by omega)] at h
        obtain ⟨v, hv1, hv2, hv3⟩ := hA2 h
        refine ⟨v, by simpa using hv1, hv2, fun h' => ?_⟩
        rw [getD_set hls, if_neg (by omega)] at h'
        simpa using hv3 h'⟩
    ·
      refine wpOp_step (o := { dst := some 59, op := Op.fieldAddr 26 (Operand.tmp 9) 0, type := 0, pos := "more.go:17", after := #[], guard := none }) rfl ?_
      intro K hK
      have q9 : a.tmps[9]? = some (.pointer (some ⟨vb, 0, none⟩)) := (hS.keep 9 (of_decide_eq_true (by kernel_rfl))).trans h9
      have ml := (hx.next hb).lt
      have m0 := (hx.next hb).cell 0 _ rfl
      go_simp
      exact hK _ _ ⟨hS.put hn 16 59 _ rfl (by rw [hsz0]; omega) (fun u h => by injection h with h; injection h with h; exact h.symm), hb, fun h => by
        rw [getD_set hls, if_neg (by omega)] at h
        obtain ⟨v, hv1, hv2, hv3⟩ := hA1 h
        refine ⟨v, by simpa using hv1, hv2, fun h' => ?_⟩
        rw [getD_set hls, if_neg (by omega)] at h'
        simpa using hv3 h', fun h => by
        rw [getD_set hls, if_neg (by omega)] at h
        obtain ⟨v, hv1, hv2, hv3⟩ := hA2 h
        refine ⟨v, by simpa using hv1, hv2, fun h' => ?_⟩
        rw [getD_set hls, if_neg (by omega)] at h'
        simpa using hv3 h'⟩
    ·
      refine wpOp_step (o := { dst := some 60, op := Op.load 22 (Operand.tmp 59), type := 22, pos := "more.go:17", after := #[{ on := 16, ground := Ground.data }], guard := none }) rfl ?_
      intro K hK
      have q59 : a.tmps[59]? = some (.pointer (some ⟨vb, 0, none⟩)) := hS.val 16 59 _ (hd 16 (of_decide_eq_true (by kernel_rfl))) rfl rfl
      have m0 := (hx.next hb).cell 0 _ rfl
      go_simp
      exact hK _ _ ⟨hS.put hn 17 60 _ rfl (by rw [hsz0]; omega) (fun u h => by injection h with h; injection h with h; exact h.symm), hb, fun h => by
        rw [getD_set hls, if_neg (by omega)] at h
        obtain ⟨v, hv1, hv2, hv3⟩ := hA1 h
        refine ⟨v, by simpa using hv1, hv2, fun h' => ?_⟩
        rw [getD_set hls, if_neg (by omega)] at h'
        simpa using hv3 h', fun h => by
        rw [getD_set hls, if_neg (by omega)] at h
        obtain ⟨v, hv1, hv2, hv3⟩ := hA2 h
        refine ⟨v, by simpa using hv1, hv2, fun h' => ?_⟩
        rw [getD_set hls, if_neg (by omega)] at h'
        simpa using hv3 h'⟩
    ·
      refine wpOp_step (o := { dst := some 61, op := Op.move (Operand.tmp 10), type := 3, pos := "more.go:17", after := #[], guard := none }) rfl ?_
      intro K hK
      have q10 : a.tmps[10]? = some (.int .i64 j) := (hS.keep 10 (of_decide_eq_true (by kernel_rfl))).trans h10
      go_simp
      exact hK _ _ ⟨hS.put hn 18 61 _ rfl (by rw [hsz0]; omega) (fun u h => by injection h with h; injection h with h; exact h.symm), hb, fun h => by
        rw [getD_set hls, if_neg (by omega)] at h
        obtain ⟨v, hv1, hv2, hv3⟩ := hA1 h
        refine ⟨v, by simpa using hv1, hv2, fun h' => ?_⟩
        rw [getD_set hls, if_neg (by omega)] at h'
        simpa using hv3 h', fun h => by
        rw [getD_set hls, if_neg (by omega)] at h
        obtain ⟨v, hv1, hv2, hv3⟩ := hA2 h
        refine ⟨v, by simpa using hv1, hv2, fun h' => ?_⟩
        rw [getD_set hls, if_neg (by omega)] at h'
        simpa using hv3 h'⟩
    ·
      refine wpOp_step (o := { dst := some 62, op := Op.indexAddr 22 (Operand.tmp 60) (Operand.tmp 61), type := 0, pos := "more.go:17", after := #[{ on := 17, ground := Ground.data }, { on := 18, ground := Ground.data }], guard := none }) rfl ?_
      intro K hK
      have q60 : a.tmps[60]? = some (.slice (some ⟨sb, so, none⟩) m c1) := hS.val 17 60 _ (hd 17 (of_decide_eq_true (by kernel_rfl))) rfl rfl
      have q61 : a.tmps[61]? = some (.int .i64 j) := hS.val 18 61 _ (hd 18 (of_decide_eq_true (by kernel_rfl))) rfl rfl
      go_simp
      exact hK _ _ ⟨hS.put hn 19 62 _ rfl (by rw [hsz0]; omega) (fun u h => by injection h with h; injection h with h; exact h.symm), hb, fun h => by
        rw [getD_set hls, if_neg (by omega)] at h
        obtain ⟨v, hv1, hv2, hv3⟩ := hA1 h
        refine ⟨v, by simpa using hv1, hv2, fun h' => ?_⟩
        rw [getD_set hls, if_neg (by omega)] at h'
        simpa using hv3 h', fun h => by
        rw [getD_set hls, if_neg (by omega)] at h
        obtain ⟨v, hv1, hv2, hv3⟩ := hA2 h
        refine ⟨v, by simpa using hv1, hv2, fun h' => ?_⟩
        rw [getD_set hls, if_neg (by omega)] at h'
        simpa using hv3 h'⟩
    ·
      refine wpOp_step (o := { dst := some 63, op := Op.fieldAddr 28 (Operand.tmp 62) 1, type := 0, pos := "more.go:17", after := #[{ on := 19, ground := Ground.data }], guard := none }) rfl ?_
      intro K hK
      have q62 : a.tmps[62]? = some (.pointer (some ⟨sb, so + j * 4, none⟩)) := hS.val 19 62 _ (hd 19 (of_decide_eq_true (by kernel_rfl))) rfl rfl
      have ml := (hs.next hb).lt
      go_simp
      exact hK _ _ ⟨hS.put hn 20 63 _ rfl (by rw [hsz0]; omega) (fun u h => by injection h with h; injection h with h; exact h.symm), hb, fun h => by
        rw [getD_set hls, if_neg (by omega)] at h
        obtain ⟨v, hv1, hv2, hv3⟩ := hA1 h
        refine ⟨v, by simpa using hv1, hv2, fun h' => ?_⟩
        rw [getD_set hls, if_neg (by omega)] at h'
        simpa using hv3 h', fun h => by
        rw [getD_set hls, if_neg (by omega)] at h
        obtain ⟨v, hv1, hv2, hv3⟩ := hA2 h
        refine ⟨v, by simpa using hv1, hv2, fun h' => ?_⟩
        rw [getD_set hls, if_neg (by omega)] at h'
        simpa using hv3 h'⟩
    ·
      refine wpOp_step (o := { dst := some 64, op := Op.load 3 (Operand.tmp 63), type := 3, pos := "more.go:17", after := #[{ on := 20, ground := Ground.data }], guard := none }) rfl ?_
      intro K hK
      have q63 : a.tmps[63]? = some (.pointer (some ⟨sb, so + j * 4 + 1, none⟩)) := hS.val 20 63 _ (hd 20 (of_decide_eq_true (by kernel_rfl))) rfl rfl
      have m1 := (hs.next hb).c1
      have m2 := (hs.next hb).c2
      go_simp
      exact hK _ _ ⟨hS.put hn 21 64 _ rfl (by rw [hsz0]; omega) (fun u h => by injection h with h; injection h with h; exact h.symm), hb, fun h => by
        rw [getD_set hls, if_neg (by omega)] at h
        obtain ⟨v, hv1, hv2, hv3⟩ := hA1 h
        refine ⟨v, by simpa using hv1, hv2, fun h' => ?_⟩
        rw [getD_set hls, if_neg (by omega)] at h'
        simpa using hv3 h', fun h => by
        rw [getD_set hls, if_neg (by omega)] at h
        obtain ⟨v, hv1, hv2, hv3⟩ := hA2 h
        refine ⟨v, by simpa using hv1, hv2, fun h' => ?_⟩
        rw [getD_set hls, if_neg (by omega)] at h'
        simpa using hv3 h'⟩
    ·
      refine wpOp_step (o := { dst := some 65, op := Op.fieldAddr 26 (Operand.tmp 9) 0, type := 0, pos := "more.go:17", after := #[], guard := none }) rfl ?_
      intro K hK
      have q9 : a.tmps[9]? = some (.pointer (some ⟨vb, 0, none⟩)) := (hS.keep 9 (of_decide_eq_true (by kernel_rfl))).trans h9
      have ml := (hx.next hb).lt
      have m0 := (hx.next hb).cell 0 _ rfl
      go_simp
      exact hK _ _ ⟨hS.put hn 22 65 _ rfl (by rw [hsz0]; omega) (fun u h => by injection h with h; injection h with h; exact h.symm), hb, fun h => by
        rw [getD_set hls, if_neg (by omega)] at h
        obtain ⟨v, hv1, hv2, hv3⟩ := hA1 h
        refine ⟨v, by simpa using hv1, hv2, fun h' => ?_⟩
        rw [getD_set hls, if_neg (by omega)] at h'
        simpa using hv3 h', fun h => by
        rw [getD_set hls, if_neg (by omega)] at h
        obtain ⟨v, hv1, hv2, hv3⟩ := hA2 h
        refine ⟨v, by simpa using hv1, hv2, fun h' => ?_⟩
        rw [getD_set hls, if_neg (by omega)] at h'
        simpa using hv3 h'⟩
    ·
      refine wpOp_step (o := { dst := some 66, op := Op.load 22 (Operand.tmp 65), type := 22, pos := "more.go:17", after := #[{ on := 22, ground := Ground.data }], guard := none }) rfl ?_
      intro K hK
      have q65 : a.tmps[65]? = some (.pointer (some ⟨vb, 0, none⟩)) := hS.val 22 65 _ (hd 22 (of_decide_eq_true (by kernel_rfl))) rfl rfl
      have m0 := (hx.next hb).cell 0 _ rfl
      go_simp
      exact hK _ _ ⟨hS.put hn 23 66 _ rfl (by rw [hsz0]; omega) (fun u h => by injection h with h; injection h with h; exact h.symm), hb, fun h => by
        rw [getD_set hls, if_neg (by omega)] at h
        obtain ⟨v, hv1, hv2, hv3⟩ := hA1 h
        refine ⟨v, by simpa using hv1, hv2, fun h' => ?_⟩
        rw [getD_set hls, if_neg (by omega)] at h'
        simpa using hv3 h', fun h => by
        rw [getD_set hls, if_neg (by omega)] at h
        obtain ⟨v, hv1, hv2, hv3⟩ := hA2 h
        refine ⟨v, by simpa using hv1, hv2, fun h' => ?_⟩
        rw [getD_set hls, if_neg (by omega)] at h'
        simpa using hv3 h'⟩
    ·
      refine wpOp_step (o := { dst := some 67, op := Op.move (Operand.tmp 10), type := 3, pos := "more.go:17", after := #[], guard := none }) rfl ?_
      intro K hK
      have q10 : a.tmps[10]? = some (.int .i64 j) := (hS.keep 10 (of_decide_eq_true (by kernel_rfl))).trans h10
      go_simp
      exact hK _ _ ⟨hS.put hn 24 67 _ rfl (by rw [hsz0]; omega) (fun u h => by injection h with h; injection h with h; exact h.symm), hb, fun h => by
        rw [getD_set hls, if_neg (by omega)] at h
        obtain ⟨v, hv1, hv2, hv3⟩ := hA1 h
        refine ⟨v, by simpa using hv1, hv2, fun h' => ?_⟩
        rw [getD_set hls, if_neg (by omega)] at h'
        simpa using hv3 h', fun h => by
        rw [getD_set hls, if_neg (by omega)] at h
        obtain ⟨v, hv1, hv2, hv3⟩ := hA2 h
        refine ⟨v, by simpa using hv1, hv2, fun h' => ?_⟩
        rw [getD_set hls, if_neg (by omega)] at h'
        simpa using hv3 h'⟩
    ·
      refine wpOp_step (o := { dst := some 68, op := Op.indexAddr 22 (Operand.tmp 66) (Operand.tmp 67), type := 0, pos := "more.go:17", after := #[{ on := 23, ground := Ground.data }, { on := 24, ground := Ground.data }], guard := none }) rfl ?_
      intro K hK
      have q66 : a.tmps[66]? = some (.slice (some ⟨sb, so, none⟩) m c1) := hS.val 23 66 _ (hd 23 (of_decide_eq_true (by kernel_rfl))) rfl rfl
      have q67 : a.tmps[67]? = some (.int .i64 j) := hS.val 24 67 _ (hd 24 (of_decide_eq_true (by kernel_rfl))) rfl rfl
      go_simp
      exact hK _ _ ⟨hS.put hn 25 68 _ rfl (by rw [hsz0]; omega) (fun u h => by injection h with h; injection h with h; exact h.symm), hb, fun h => by
        rw [getD_set hls, if_neg (by omega)] at h
        obtain ⟨v, hv1, hv2, hv3⟩ := hA1 h
        refine ⟨v, by simpa using hv1, hv2, fun h' => ?_⟩
        rw [getD_set hls, if_neg (by omega)] at h'
        simpa using hv3 h', fun h => by
        rw [getD_set hls, if_neg (by omega)] at h
        obtain ⟨v, hv1, hv2, hv3⟩ := hA2 h
        refine ⟨v, by simpa using hv1, hv2, fun h' => ?_⟩
        rw [getD_set hls, if_neg (by omega)] at h'
        simpa using hv3 h'⟩
    ·
      refine wpOp_step (o := { dst := some 69, op := Op.fieldAddr 28 (Operand.tmp 68) 2, type := 0, pos := "more.go:17", after := #[{ on := 25, ground := Ground.data }], guard := none }) rfl ?_
      intro K hK
      have q68 : a.tmps[68]? = some (.pointer (some ⟨sb, so + j * 4, none⟩)) := hS.val 25 68 _ (hd 25 (of_decide_eq_true (by kernel_rfl))) rfl rfl
      have ml := (hs.next hb).lt
      go_simp
      exact hK _ _ ⟨hS.put hn 26 69 _ rfl (by rw [hsz0]; omega) (fun u h => by injection h with h; injection h with h; exact h.symm), hb, fun h => by
        rw [getD_set hls, if_neg (by omega)] at h
        obtain ⟨v, hv1, hv2, hv3⟩ := hA1 h
        refine ⟨v, by simpa using hv1, hv2, fun h' => ?_⟩
        rw [getD_set hls, if_neg (by omega)] at h'
        simpa using hv3 h', fun h => by
        rw [getD_set hls, if_neg (by omega)] at h
        obtain ⟨v, hv1, hv2, hv3⟩ := hA2 h
        refine ⟨v, by simpa using hv1, hv2, fun h' => ?_⟩
        rw [getD_set hls, if_neg (by omega)] at h'
        simpa using hv3 h'⟩
    ·
      refine wpOp_step (o := { dst := some 70, op := Op.load 3 (Operand.tmp 69), type := 3, pos := "more.go:17", after := #[{ on := 26, ground := Ground.data }], guard := none }) rfl ?_
      intro K hK
      have q69 : a.tmps[69]? = some (.pointer (some ⟨sb, so + j * 4 + 2, none⟩)) := hS.val 26 69 _ (hd 26 (of_decide_eq_true (by kernel_rfl))) rfl rfl
      have m1 := (hs.next hb).c1
      have m2 := (hs.next hb).c2
      go_simp
      exact hK _ _ ⟨hS.put hn 27 70 _ rfl (by rw [hsz0]; omega) (fun u h => by injection h with h; injection h with h; exact h.symm), hb, fun h => by
        rw [getD_set hls, if_neg (by omega)] at h
        obtain ⟨v, hv1, hv2, hv3⟩ := hA1 h
        refine ⟨v, by simpa using hv1, hv2, fun h' => ?_⟩
        rw [getD_set hls, if_neg (by omega)] at h'
        simpa using hv3 h', fun h => by
        rw [getD_set hls, if_neg (by omega)] at h
        obtain ⟨v, hv1, hv2, hv3⟩ := hA2 h
        refine ⟨v, by simpa using hv1, hv2, fun h' => ?_⟩
        rw [getD_set hls, if_neg (by omega)] at h'
        simpa using hv3 h'⟩
    ·
      refine wpOp_step (o := { dst := some 71, op := Op.move (Operand.tmp 12), type := 3, pos := "more.go:17", after := #[], guard := none }) rfl ?_
      intro K hK
      have q12 : a.tmps[12]? = some (.int .i64 q) := (hS.keep 12 (of_decide_eq_true (by kernel_rfl))).trans h12
      go_simp
      exact hK _ _ ⟨hS.put hn 28 71 _ rfl (by rw [hsz0]; omega) (fun u h => by injection h with h; injection h with h; exact h.symm), hb, fun h => by
        rw [getD_set hls, if_neg (by omega)] at h
        obtain ⟨v, hv1, hv2, hv3⟩ := hA1 h
        refine ⟨v, by simpa using hv1, hv2, fun h' => ?_⟩
        rw [getD_set hls, if_neg (by omega)] at h'
        simpa using hv3 h', fun h => by
        rw [getD_set hls, if_neg (by omega)] at h
        obtain ⟨v, hv1, hv2, hv3⟩ := hA2 h
        refine ⟨v, by simpa using hv1, hv2, fun h' => ?_⟩
        rw [getD_set hls, if_neg (by omega)] at h'
        simpa using hv3 h'⟩
    ·
      refine wpOp_step (o := { dst := some 72, op := Op.call { callee := Callee.value (Operand.func 14), args := #[Operand.tmp 58, Operand.tmp 64, Operand.tmp 70, Operand.tmp 71], argTypes := #[26, 3, 3, 3] }, type := 23, pos := "more.go:17", after := #[{ on := 15, ground := Ground.data }, { on := 21, ground := Ground.data }, { on := 27, ground := Ground.data }, { on := 28, ground := Ground.data }, { on := 14, ground := Ground.chain }], guard := none }) rfl ?_
      intro K hK
      have q58 : a.tmps[58]? = some (.agg #[.slice (some ⟨sb, so, none⟩) m c1, .int .i64 gap, .int .i64 rad, .slice a2 n2 c2, .slice a3 n3 c3]) := hS.val 15 58 _ (hd 15 (of_decide_eq_true (by kernel_rfl))) rfl rfl
      have q64 : a.tmps[64]? = some (.int .i64 x) := hS.val 21 64 _ (hd 21 (of_decide_eq_true (by kernel_rfl))) rfl rfl
      have q70 : a.tmps[70]? = some (.int .i64 y) := hS.val 27 70 _ (hd 27 (of_decide_eq_true (by kernel_rfl))) rfl rfl
      have q71 : a.tmps[71]? = some (.int .i64 q) := hS.val 28 71 _ (hd 28 (of_decide_eq_true (by kernel_rfl))) rfl rfl
      have hc := hc2 w hb
      have h9 : listed.getD 31 false = false := by
        cases h : listed.getD 31 false with
        | false => rfl
        | true => have := hcl 31 29 h (of_decide_eq_true (by kernel_rfl)); rw [hl] at this; cases this
      go_simp
      go_at_call 14
      refine hc.mono ?_
      rintro e w' ⟨v, rfl, hrow, hb2⟩
      have hs2 : 72 < a.tmps.size := by rw [hsz.out]; omega
      refine hK _ _ ⟨hS.put hn 29 72 _ rfl (by rw [hsz0]; omega) (fun u h => by cases h), hb.trans (hb2.mono hb.size), fun h => by
        rw [getD_set hls, if_neg (by omega)] at h
        obtain ⟨v, hv1, hv2, hv3⟩ := hA1 h
        refine ⟨v, by simpa using hv1, hv2.next hb2, fun h' => ?_⟩
        rw [getD_set hls, if_neg (by omega)] at h'
        simpa using hv3 h', fun h => ⟨v, ?_, row_base hrow hb.size, fun h' => ?_⟩⟩
      · simp [hs2]
      · rw [getD_set hls, if_neg (by omega), h9] at h'; cases h'
    ·
      refine wpOp_step (o := { dst := some 13, op := Op.assign (Operand.tmp 57), type := 23, pos := "more.go:17", after := #[{ on := 14, ground := Ground.data }, { on := 29, ground := Ground.chain }, { on := 0, ground := Ground.phase }, { on := 1, ground := Ground.phase }, { on := 2, ground := Ground.phase }, { on := 3, ground := Ground.phase }, { on := 4, ground := Ground.phase }, { on := 5, ground := Ground.phase }, { on := 6, ground := Ground.phase }, { on := 7, ground := Ground.phase }, { on := 8, ground := Ground.phase }, { on := 9, ground := Ground.phase }, { on := 10, ground := Ground.phase }, { on := 11, ground := Ground.phase }, { on := 12, ground := Ground.phase }, { on := 13, ground := Ground.phase }, { on := 14, ground := Ground.phase }, { on := 15, ground := Ground.textOnly Departure.lateStores }, { on := 16, ground := Ground.textOnly Departure.lateStores }, { on := 17, ground := Ground.textOnly Departure.lateStores }, { on := 18, ground := Ground.textOnly Departure.lateStores }, { on := 19, ground := Ground.textOnly Departure.lateStores }, { on := 20, ground := Ground.textOnly Departure.lateStores }, { on := 21, ground := Ground.textOnly Departure.lateStores }, { on := 22, ground := Ground.textOnly Departure.lateStores }, { on := 23, ground := Ground.textOnly Departure.lateStores }, { on := 24, ground := Ground.textOnly Departure.lateStores }, { on := 25, ground := Ground.textOnly Departure.lateStores }, { on := 26, ground := Ground.textOnly Departure.lateStores }, { on := 27, ground := Ground.textOnly Departure.lateStores }, { on := 28, ground := Ground.textOnly Departure.lateStores }, { on := 29, ground := Ground.textOnly Departure.lateStoresUnsure }], guard := none }) rfl ?_
      intro K hK
      obtain ⟨v, hv1, hv2, hv3⟩ := hA1 (hd 14 (of_decide_eq_true (by kernel_rfl)))
      have hs2 : 13 < a.tmps.size := by rw [hsz.out]; omega
      go_simp
      refine hK _ _ ⟨hS.put hn 30 13 _ rfl (by rw [hsz0]; omega) (fun u h => by cases h), hb, fun h => ⟨v, by simpa using hv1, hv2, fun h' => ?_⟩, fun h => by
        rw [getD_set hls, if_neg (by omega)] at h
        obtain ⟨v, hv1, hv2, hv3⟩ := hA2 h
        refine ⟨v, by simpa using hv1, hv2, fun h' => ?_⟩
        rw [getD_set hls, if_neg (by omega)] at h'
        simpa using hv3 h'⟩
      simp [hs2]
    ·
      refine wpOp_step (o := { dst := some 14, op := Op.assign (Operand.tmp 72), type := 23, pos := "more.go:17", after := #[{ on := 29, ground := Ground.data }, { on := 30, ground := Ground.chain }, { on := 0, ground := Ground.phase }, { on := 1, ground := Ground.phase }, { on := 2, ground := Ground.phase }, { on := 3, ground := Ground.phase }, { on := 4, ground := Ground.phase }, { on := 5, ground := Ground.phase }, { on := 6, ground := Ground.phase }, { on := 7, ground := Ground.phase }, { on := 8, ground := Ground.phase }, { on := 9, ground := Ground.phase }, { on := 10, ground := Ground.phase }, { on := 11, ground := Ground.phase }, { on := 12, ground := Ground.phase }, { on := 13, ground := Ground.phase }, { on := 14, ground := Ground.phase }, { on := 15, ground := Ground.phase }, { on := 16, ground := Ground.phase }, { on := 17, ground := Ground.phase }, { on := 18, ground := Ground.phase }, { on := 19, ground := Ground.phase }, { on := 20, ground := Ground.phase }, { on := 21, ground := Ground.phase }, { on := 22, ground := Ground.phase }, { on := 23, ground := Ground.phase }, { on := 24, ground := Ground.phase }, { on := 25, ground := Ground.phase }, { on := 26, ground := Ground.phase }, { on := 27, ground := Ground.phase }, { on := 28, ground := Ground.phase }, { on := 29, ground := Ground.phase }, { on := 30, ground := Ground.phase }], guard := none }) rfl ?_
      intro K hK
      obtain ⟨v, hv1, hv2, hv3⟩ := hA2 (hd 29 (of_decide_eq_true (by kernel_rfl)))
      have hs2 : 14 < a.tmps.size := by rw [hsz.out]; omega
      go_simp
      refine hK _ _ ⟨hS.put hn 31 14 _ rfl (by rw [hsz0]; omega) (fun u h => by cases h), hb, fun h => by
        rw [getD_set hls, if_neg (by omega)] at h
        obtain ⟨v, hv1, hv2, hv3⟩ := hA1 h
        refine ⟨v, by simpa using hv1, hv2, fun h' => ?_⟩
        rw [getD_set hls, if_neg (by omega)] at h'
        simpa using hv3 h', fun h => ⟨v, by simpa using hv1, hv2, fun h' => ?_⟩⟩
      simp [hs2]
  · intro listed a w hall ⟨hS, hb, hA1, hA2⟩
    obtain ⟨v1, hv1, hi1, hw1⟩ := hA1 (hall 14 (by decide))
    obtain ⟨v2, hv2, hi2, hw2⟩ := hA2 (hall 29 (by decide))
    have hu1 := hw1 (hall 30 (by decide))
    have hu2 := hw2 (hall 31 (by decide))
    have hf := hS.frame [(43, .agg #[.slice (some ⟨sb, so, none⟩) m c1, .int .i64 gap, .int .i64 rad, .slice a2 n2 c2, .slice a3 n3 c3]), (44, .pointer (some ⟨vb, 0, none⟩)), (45, .slice (some ⟨sb, so, none⟩) m c1), (46, .int .i64 j), (47, .pointer (some ⟨sb, so + j * 4, none⟩)), (48, .pointer (some ⟨sb, so + j * 4 + 1, none⟩)), (49, .int .i64 x), (50, .pointer (some ⟨vb, 0, none⟩)), (51, .slice (some ⟨sb, so, none⟩) m c1), (52, .int .i64 j), (53, .pointer (some ⟨sb, so + j * 4, none⟩)), (54, .pointer (some ⟨sb, so + j * 4 + 2, none⟩)), (55, .int .i64 y), (56, .int .i64 p), (57, v1), (58, .agg #[.slice (some ⟨sb, so, none⟩) m c1, .int .i64 gap, .int .i64 rad, .slice a2 n2 c2, .slice a3 n3 c3]), (59, .pointer (some ⟨vb, 0, none⟩)), (60, .slice (some ⟨sb, so, none⟩) m c1), (61, .int .i64 j), (62, .pointer (some ⟨sb, so + j * 4, none⟩)), (63, .pointer (some ⟨sb, so + j * 4 + 1, none⟩)), (64, .int .i64 x), (65, .pointer (some ⟨vb, 0, none⟩)), (66, .slice (some ⟨sb, so, none⟩) m c1), (67, .int .i64 j), (68, .pointer (some ⟨sb, so + j * 4, none⟩)), (69, .pointer (some ⟨sb, so + j * 4 + 2, none⟩)), (70, .int .i64 y), (71, .int .i64 q), (72, v2), (13, v1), (14, v2)] rfl (of_decide_eq_true (by kernel_rfl)) (by
      simp only [List.map_cons, List.map_nil, List.all_cons, List.all_nil, hsz0]; rfl) (by
      intro p hp
      simp only [List.mem_cons, List.not_mem_nil, or_false] at hp
      rcases hp with rfl | rfl | rfl | rfl | rfl | rfl | rfl | rfl | rfl | rfl | rfl | rfl | rfl | rfl | rfl | rfl | rfl | rfl | rfl | rfl | rfl | rfl | rfl | rfl | rfl | rfl | rfl | rfl | rfl | rfl | rfl | rfl
      · exact hS.val 0 43 _ (hall 0 (by decide)) rfl rfl
      · exact hS.val 1 44 _ (hall 1 (by decide)) rfl rfl
      · exact hS.val 2 45 _ (hall 2 (by decide)) rfl rfl
      · exact hS.val 3 46 _ (hall 3 (by decide)) rfl rfl
      · exact hS.val 4 47 _ (hall 4 (by decide)) rfl rfl
      · exact hS.val 5 48 _ (hall 5 (by decide)) rfl rfl
      · exact hS.val 6 49 _ (hall 6 (by decide)) rfl rfl
      · exact hS.val 7 50 _ (hall 7 (by decide)) rfl rfl
      · exact hS.val 8 51 _ (hall 8 (by decide)) rfl rfl
      · exact hS.val 9 52 _ (hall 9 (by decide)) rfl rfl
      · exact hS.val 10 53 _ (hall 10 (by decide)) rfl rfl
      · exact hS.val 11 54 _ (hall 11 (by decide)) rfl rfl
      · exact hS.val 12 55 _ (hall 12 (by decide)) rfl rfl
      · exact hS.val 13 56 _ (hall 13 (by decide)) rfl rfl
      · exact hv1
      · exact hS.val 15 58 _ (hall 15 (by decide)) rfl rfl
      · exact hS.val 16 59 _ (hall 16 (by decide)) rfl rfl
      · exact hS.val 17 60 _ (hall 17 (by decide)) rfl rfl
      · exact hS.val 18 61 _ (hall 18 (by decide)) rfl rfl
      · exact hS.val 19 62 _ (hall 19 (by decide)) rfl rfl
      · exact hS.val 20 63 _ (hall 20 (by decide)) rfl rfl
      · exact hS.val 21 64 _ (hall 21 (by decide)) rfl rfl
      · exact hS.val 22 65 _ (hall 22 (by decide)) rfl rfl
      · exact hS.val 23 66 _ (hall 23 (by decide)) rfl rfl
      · exact hS.val 24 67 _ (hall 24 (by decide)) rfl rfl
      · exact hS.val 25 68 _ (hall 25 (by decide)) rfl rfl
      · exact hS.val 26 69 _ (hall 26 (by decide)) rfl rfl
      · exact hS.val 27 70 _ (hall 27 (by decide)) rfl rfl
      · exact hS.val 28 71 _ (hall 28 (by decide)) rfl rfl
      · exact hv2
      · exact hu1
      · exact hu2)
    rw [hf]
    exact hQ w v1 v2 hb hi1 hi2
end Go.Proofs.Ytgpkdjhllekihaa.Geo
