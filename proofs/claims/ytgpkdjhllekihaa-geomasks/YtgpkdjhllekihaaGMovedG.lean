/- GeomMoved's statement of three graphs, which draws its order, by an invariant. -/
import Derived.Test.YtgpkdjhllekihaaGTold
namespace Go.Proofs.Ytgpkdjhllekihaa.Geo
set_option linter.unusedVariables false
set_option maxRecDepth 100000
open Go.RowKit Go.Shelf
open Go.Proofs.Ytgpkdjhllekihaa.Ven (Box mixed below_alloc Slots wp_region_inv getD_set start_false putAll Slots.start slot_of)

set_option maxHeartbeats 8000000 in
theorem graphs_region {Q : Exit → Act → World → Prop} (a0 : Act) (W : World) (hsz0 : a0.tmps.size = 173) (p9 p10 p14 : Nat) (x00 x01 x02 x03 x04 x10 x11 x12 x13 x14 x20 x21 x22 x23 x24 : Value) (L0 L1 L2 : List (List Int))
    (h9 : a0.tmps[9]? = some (.pointer (some ⟨p9, 0, none⟩))) (h10 : a0.tmps[10]? = some (.pointer (some ⟨p10, 0, none⟩))) (h14 : a0.tmps[14]? = some (.pointer (some ⟨p14, 0, none⟩)))
    (b0 : Box W p9 26 #[x00, x01, x02, x03, x04]) (b1 : Box W p10 26 #[x10, x11, x12, x13, x14]) (b2 : Box W p14 26 #[x20, x21, x22, x23, x24])
    (hc0 : ∀ w, Below W.heap.size W w → Calls Try.prog 16 #[.agg #[x00, x01, x02, x03, x04]] w fun e w' => ∃ v, e = .returned v ∧ RowsAt w' v L0 ∧ Below w.heap.size w w')
    (hc1 : ∀ w, Below W.heap.size W w → Calls Try.prog 16 #[.agg #[x10, x11, x12, x13, x14]] w fun e w' => ∃ v, e = .returned v ∧ RowsAt w' v L1 ∧ Below w.heap.size w w')
    (hc2 : ∀ w, Below W.heap.size W w → Calls Try.prog 16 #[.agg #[x20, x21, x22, x23, x24]] w fun e w' => ∃ v, e = .returned v ∧ RowsAt w' v L2 ∧ Below w.heap.size w w')
    (hQ : ∀ w' u0 u1 u2, Below W.heap.size W w' → RowsAt w' u0 L0 → RowsAt w' u1 L1 → RowsAt w' u2 L2 → Q .normal { tmps := putAll a0.tmps [(79, .agg #[x00, x01, x02, x03, x04]), (80, u0), (81, .agg #[x10, x11, x12, x13, x14]), (82, u1), (83, .agg #[x20, x21, x22, x23, x24]), (84, u2), (15, u0), (16, u1), (17, u2)], defers := a0.defers } w') :
    (Code.region 11 #[{ dst := some 79, op := Op.load 26 (Operand.tmp 9), type := 26, pos := "law.go:72", after := #[], guard := none }, { dst := some 80, op := Op.call { callee := Callee.value (Operand.func 16), args := #[Operand.tmp 79], argTypes := #[26] }, type := 35, pos := "law.go:72", after := #[{ on := 0, ground := Ground.data }], guard := none }, { dst := some 81, op := Op.load 26 (Operand.tmp 10), type := 26, pos := "law.go:72", after := #[], guard := none }, { dst := some 82, op := Op.call { callee := Callee.value (Operand.func 16), args := #[Operand.tmp 81], argTypes := #[26] }, type := 35, pos := "law.go:72", after := #[{ on := 2, ground := Ground.data }, { on := 1, ground := Ground.chain }], guard := none }, { dst := some 83, op := Op.load 26 (Operand.tmp 14), type := 26, pos := "law.go:72", after := #[], guard := none }, { dst := some 84, op := Op.call { callee := Callee.value (Operand.func 16), args := #[Operand.tmp 83], argTypes := #[26] }, type := 35, pos := "law.go:72", after := #[{ on := 4, ground := Ground.data }, { on := 3, ground := Ground.chain }], guard := none }, { dst := some 15, op := Op.assign (Operand.tmp 80), type := 35, pos := "law.go:72", after := #[{ on := 1, ground := Ground.data }, { on := 5, ground := Ground.chain }, { on := 0, ground := Ground.phase }, { on := 1, ground := Ground.phase }, { on := 2, ground := Ground.textOnly Departure.lateStores }, { on := 3, ground := Ground.textOnly Departure.lateStoresUnsure }, { on := 4, ground := Ground.textOnly Departure.lateStores }, { on := 5, ground := Ground.textOnly Departure.lateStoresUnsure }], guard := none }, { dst := some 16, op := Op.assign (Operand.tmp 82), type := 35, pos := "law.go:72", after := #[{ on := 3, ground := Ground.data }, { on := 6, ground := Ground.chain }, { on := 0, ground := Ground.phase }, { on := 1, ground := Ground.phase }, { on := 2, ground := Ground.phase }, { on := 3, ground := Ground.phase }, { on := 4, ground := Ground.textOnly Departure.lateStores }, { on := 5, ground := Ground.textOnly Departure.lateStoresUnsure }, { on := 6, ground := Ground.phase }], guard := none }, { dst := some 17, op := Op.assign (Operand.tmp 84), type := 35, pos := "law.go:72", after := #[{ on := 5, ground := Ground.data }, { on := 7, ground := Ground.chain }, { on := 0, ground := Ground.phase }, { on := 1, ground := Ground.phase }, { on := 2, ground := Ground.phase }, { on := 3, ground := Ground.phase }, { on := 4, ground := Ground.phase }, { on := 5, ground := Ground.phase }, { on := 6, ground := Ground.phase }, { on := 7, ground := Ground.phase }], guard := none }] true).wp Try.prog Q a0 W := by
  have hn : ([some 79, some 80, some 81, some 82, some 83, some 84, some 15, some 16, some 17] : List (Option Nat)).Pairwise (fun x y => x = none ∨ x ≠ y) := of_decide_eq_true (by kernel_rfl)
  refine wp_region_inv mixed (fun listed a w => Slots a0 [some 79, some 80, some 81, some 82, some 83, some 84, some 15, some 16, some 17] [some (.agg #[x00, x01, x02, x03, x04]), none, some (.agg #[x10, x11, x12, x13, x14]), none, some (.agg #[x20, x21, x22, x23, x24]), none, none, none, none] listed a ∧ Below W.heap.size W w ∧ (listed.getD 1 false = true → ∃ v, a.tmps[80]? = some v ∧ RowsAt w v L0 ∧ (listed.getD 6 false = true → a.tmps[15]? = some v)) ∧ (listed.getD 3 false = true → ∃ v, a.tmps[82]? = some v ∧ RowsAt w v L1 ∧ (listed.getD 7 false = true → a.tmps[16]? = some v)) ∧ (listed.getD 5 false = true → ∃ v, a.tmps[84]? = some v ∧ RowsAt w v L2 ∧ (listed.getD 8 false = true → a.tmps[17]? = some v))) (by kernel_rfl) ?_ ?_ ?_
  · exact ⟨Slots.start _ _ _ _, (Below.refl _ W).drew, fun h => (by rw [start_false] at h; cases h), fun h => (by rw [start_false] at h; cases h), fun h => (by rw [start_false] at h; cases h)⟩
  · intro listed a w i' hsl hilt hl hd hcl ⟨hS, hb, hA0, hA1, hA2⟩
    have hsz : Hid (a.tmps.size = 173) := hS.size.trans hsz0
    have hls : i' < listed.size := by rw [hsl]; exact hilt
    have hcase : i' = 0 ∨ i' = 1 ∨ i' = 2 ∨ i' = 3 ∨ i' = 4 ∨ i' = 5 ∨ i' = 6 ∨ i' = 7 ∨ i' = 8 := by
      have : i' < 9 := hilt
      omega
    rcases hcase with rfl | rfl | rfl | rfl | rfl | rfl | rfl | rfl | rfl
    ·
      refine wpOp_step rfl ?_
      intro K hK
      have q9 : a.tmps[9]? = some (.pointer (some ⟨p9, 0, none⟩)) := (hS.keep 9 (of_decide_eq_true (by kernel_rfl))).trans h9
      have m0 := (b0.next hb).cell 0 _ rfl
      have m1 := (b0.next hb).cell 1 _ rfl
      have m2 := (b0.next hb).cell 2 _ rfl
      have m3 := (b0.next hb).cell 3 _ rfl
      have m4 := (b0.next hb).cell 4 _ rfl
      go_simp
      exact hK _ _ ⟨hS.put hn 0 79 _ rfl (by rw [hsz0]; omega) (fun u h => by injection h with h; injection h with h; exact h.symm), hb, fun h => (by
        rw [getD_set hls, if_neg (by omega)] at h
        obtain ⟨v, s1, s2, s3⟩ := hA0 h
        refine ⟨v, by simpa using s1, s2, fun h' => ?_⟩
        rw [getD_set hls, if_neg (by omega)] at h'
        simpa using s3 h'), fun h => (by
        rw [getD_set hls, if_neg (by omega)] at h
        obtain ⟨v, s1, s2, s3⟩ := hA1 h
        refine ⟨v, by simpa using s1, s2, fun h' => ?_⟩
        rw [getD_set hls, if_neg (by omega)] at h'
        simpa using s3 h'), fun h => (by
        rw [getD_set hls, if_neg (by omega)] at h
        obtain ⟨v, s1, s2, s3⟩ := hA2 h
        refine ⟨v, by simpa using s1, s2, fun h' => ?_⟩
        rw [getD_set hls, if_neg (by omega)] at h'
        simpa using s3 h')⟩
    ·
      refine wpOp_step rfl ?_
      intro K hK
      have q79 : a.tmps[79]? = some (.agg #[x00, x01, x02, x03, x04]) := hS.val 0 79 _ (hd 0 (of_decide_eq_true (by kernel_rfl))) rfl rfl
      have hc := hc0 w hb
      have y : listed.getD 6 false = false := by
        cases h : listed.getD 6 false with
        | false => rfl
        | true => have := hcl 6 1 h (of_decide_eq_true (by kernel_rfl)); rw [hl] at this; cases this
      go_simp
      go_at_call 16
      refine hc.mono ?_
      rintro e w' ⟨v, rfl, hrow, hb2⟩
      have hs2 : 80 < a.tmps.size := by rw [hsz.out]; omega
      refine hK _ _ ⟨hS.put hn 1 80 _ rfl (by rw [hsz0]; omega) (fun u h => by cases h), hb.trans (hb2.mono hb.size), fun h => ⟨v, ?_, hrow, fun h' => ?_⟩, fun h => (by
        rw [getD_set hls, if_neg (by omega)] at h
        obtain ⟨v, s1, s2, s3⟩ := hA1 h
        refine ⟨v, by simpa using s1, s2.next hb2, fun h' => ?_⟩
        rw [getD_set hls, if_neg (by omega)] at h'
        simpa using s3 h'), fun h => (by
        rw [getD_set hls, if_neg (by omega)] at h
        obtain ⟨v, s1, s2, s3⟩ := hA2 h
        refine ⟨v, by simpa using s1, s2.next hb2, fun h' => ?_⟩
        rw [getD_set hls, if_neg (by omega)] at h'
        simpa using s3 h')⟩
      · simp [hs2]
      · rw [getD_set hls, if_neg (by omega), y] at h'; cases h'
    ·
      refine wpOp_step rfl ?_
      intro K hK
      have q10 : a.tmps[10]? = some (.pointer (some ⟨p10, 0, none⟩)) := (hS.keep 10 (of_decide_eq_true (by kernel_rfl))).trans h10
      have m0 := (b1.next hb).cell 0 _ rfl
      have m1 := (b1.next hb).cell 1 _ rfl
      have m2 := (b1.next hb).cell 2 _ rfl
      have m3 := (b1.next hb).cell 3 _ rfl
      have m4 := (b1.next hb).cell 4 _ rfl
      go_simp
      exact hK _ _ ⟨hS.put hn 2 81 _ rfl (by rw [hsz0]; omega) (fun u h => by injection h with h; injection h with h; exact h.symm), hb, fun h => (by
        rw [getD_set hls, if_neg (by omega)] at h
        obtain ⟨v, s1, s2, s3⟩ := hA0 h
        refine ⟨v, by simpa using s1, s2, fun h' => ?_⟩
        rw [getD_set hls, if_neg (by omega)] at h'
        simpa using s3 h'), fun h => (by
        rw [getD_set hls, if_neg (by omega)] at h
        obtain ⟨v, s1, s2, s3⟩ := hA1 h
        refine ⟨v, by simpa using s1, s2, fun h' => ?_⟩
        rw [getD_set hls, if_neg (by omega)] at h'
        simpa using s3 h'), fun h => (by
        rw [getD_set hls, if_neg (by omega)] at h
        obtain ⟨v, s1, s2, s3⟩ := hA2 h
        refine ⟨v, by simpa using s1, s2, fun h' => ?_⟩
        rw [getD_set hls, if_neg (by omega)] at h'
        simpa using s3 h')⟩
    ·
      refine wpOp_step rfl ?_
      intro K hK
      have q81 : a.tmps[81]? = some (.agg #[x10, x11, x12, x13, x14]) := hS.val 2 81 _ (hd 2 (of_decide_eq_true (by kernel_rfl))) rfl rfl
      have hc := hc1 w hb
      have y : listed.getD 7 false = false := by
        cases h : listed.getD 7 false with
        | false => rfl
        | true => have := hcl 7 3 h (of_decide_eq_true (by kernel_rfl)); rw [hl] at this; cases this
      go_simp
      go_at_call 16
      refine hc.mono ?_
      rintro e w' ⟨v, rfl, hrow, hb2⟩
      have hs2 : 82 < a.tmps.size := by rw [hsz.out]; omega
      refine hK _ _ ⟨hS.put hn 3 82 _ rfl (by rw [hsz0]; omega) (fun u h => by cases h), hb.trans (hb2.mono hb.size), fun h => (by
        rw [getD_set hls, if_neg (by omega)] at h
        obtain ⟨v, s1, s2, s3⟩ := hA0 h
        refine ⟨v, by simpa using s1, s2.next hb2, fun h' => ?_⟩
        rw [getD_set hls, if_neg (by omega)] at h'
        simpa using s3 h'), fun h => ⟨v, ?_, hrow, fun h' => ?_⟩, fun h => (by
        rw [getD_set hls, if_neg (by omega)] at h
        obtain ⟨v, s1, s2, s3⟩ := hA2 h
        refine ⟨v, by simpa using s1, s2.next hb2, fun h' => ?_⟩
        rw [getD_set hls, if_neg (by omega)] at h'
        simpa using s3 h')⟩
      · simp [hs2]
      · rw [getD_set hls, if_neg (by omega), y] at h'; cases h'
    ·
      refine wpOp_step rfl ?_
      intro K hK
      have q14 : a.tmps[14]? = some (.pointer (some ⟨p14, 0, none⟩)) := (hS.keep 14 (of_decide_eq_true (by kernel_rfl))).trans h14
      have m0 := (b2.next hb).cell 0 _ rfl
      have m1 := (b2.next hb).cell 1 _ rfl
      have m2 := (b2.next hb).cell 2 _ rfl
      have m3 := (b2.next hb).cell 3 _ rfl
      have m4 := (b2.next hb).cell 4 _ rfl
      go_simp
      exact hK _ _ ⟨hS.put hn 4 83 _ rfl (by rw [hsz0]; omega) (fun u h => by injection h with h; injection h with h; exact h.symm), hb, fun h => (by
        rw [getD_set hls, if_neg (by omega)] at h
        obtain ⟨v, s1, s2, s3⟩ := hA0 h
        refine ⟨v, by simpa using s1, s2, fun h' => ?_⟩
        rw [getD_set hls, if_neg (by omega)] at h'
        simpa using s3 h'), fun h => (by
        rw [getD_set hls, if_neg (by omega)] at h
        obtain ⟨v, s1, s2, s3⟩ := hA1 h
        refine ⟨v, by simpa using s1, s2, fun h' => ?_⟩
        rw [getD_set hls, if_neg (by omega)] at h'
        simpa using s3 h'), fun h => (by
        rw [getD_set hls, if_neg (by omega)] at h
        obtain ⟨v, s1, s2, s3⟩ := hA2 h
        refine ⟨v, by simpa using s1, s2, fun h' => ?_⟩
        rw [getD_set hls, if_neg (by omega)] at h'
        simpa using s3 h')⟩
    ·
      refine wpOp_step rfl ?_
      intro K hK
      have q83 : a.tmps[83]? = some (.agg #[x20, x21, x22, x23, x24]) := hS.val 4 83 _ (hd 4 (of_decide_eq_true (by kernel_rfl))) rfl rfl
      have hc := hc2 w hb
      have y : listed.getD 8 false = false := by
        cases h : listed.getD 8 false with
        | false => rfl
        | true => have := hcl 8 5 h (of_decide_eq_true (by kernel_rfl)); rw [hl] at this; cases this
      go_simp
      go_at_call 16
      refine hc.mono ?_
      rintro e w' ⟨v, rfl, hrow, hb2⟩
      have hs2 : 84 < a.tmps.size := by rw [hsz.out]; omega
      refine hK _ _ ⟨hS.put hn 5 84 _ rfl (by rw [hsz0]; omega) (fun u h => by cases h), hb.trans (hb2.mono hb.size), fun h => (by
        rw [getD_set hls, if_neg (by omega)] at h
        obtain ⟨v, s1, s2, s3⟩ := hA0 h
        refine ⟨v, by simpa using s1, s2.next hb2, fun h' => ?_⟩
        rw [getD_set hls, if_neg (by omega)] at h'
        simpa using s3 h'), fun h => (by
        rw [getD_set hls, if_neg (by omega)] at h
        obtain ⟨v, s1, s2, s3⟩ := hA1 h
        refine ⟨v, by simpa using s1, s2.next hb2, fun h' => ?_⟩
        rw [getD_set hls, if_neg (by omega)] at h'
        simpa using s3 h'), fun h => ⟨v, ?_, hrow, fun h' => ?_⟩⟩
      · simp [hs2]
      · rw [getD_set hls, if_neg (by omega), y] at h'; cases h'
    ·
      refine wpOp_step rfl ?_
      intro K hK
      obtain ⟨v, s1, s2, s3⟩ := hA0 (hd 1 (of_decide_eq_true (by kernel_rfl)))
      have hs2 : 15 < a.tmps.size := by rw [hsz.out]; omega
      go_simp
      refine hK _ _ ⟨hS.put hn 6 15 _ rfl (by rw [hsz0]; omega) (fun u h => by cases h), hb, fun h => ⟨v, by simpa using s1, s2, fun h' => ?_⟩, fun h => (by
        rw [getD_set hls, if_neg (by omega)] at h
        obtain ⟨v, s1, s2, s3⟩ := hA1 h
        refine ⟨v, by simpa using s1, s2, fun h' => ?_⟩
        rw [getD_set hls, if_neg (by omega)] at h'
        simpa using s3 h'), fun h => (by
        rw [getD_set hls, if_neg (by omega)] at h
        obtain ⟨v, s1, s2, s3⟩ := hA2 h
        refine ⟨v, by simpa using s1, s2, fun h' => ?_⟩
        rw [getD_set hls, if_neg (by omega)] at h'
        simpa using s3 h')⟩
      simp [hs2]
    ·
      refine wpOp_step rfl ?_
      intro K hK
      obtain ⟨v, s1, s2, s3⟩ := hA1 (hd 3 (of_decide_eq_true (by kernel_rfl)))
      have hs2 : 16 < a.tmps.size := by rw [hsz.out]; omega
      go_simp
      refine hK _ _ ⟨hS.put hn 7 16 _ rfl (by rw [hsz0]; omega) (fun u h => by cases h), hb, fun h => (by
        rw [getD_set hls, if_neg (by omega)] at h
        obtain ⟨v, s1, s2, s3⟩ := hA0 h
        refine ⟨v, by simpa using s1, s2, fun h' => ?_⟩
        rw [getD_set hls, if_neg (by omega)] at h'
        simpa using s3 h'), fun h => ⟨v, by simpa using s1, s2, fun h' => ?_⟩, fun h => (by
        rw [getD_set hls, if_neg (by omega)] at h
        obtain ⟨v, s1, s2, s3⟩ := hA2 h
        refine ⟨v, by simpa using s1, s2, fun h' => ?_⟩
        rw [getD_set hls, if_neg (by omega)] at h'
        simpa using s3 h')⟩
      simp [hs2]
    ·
      refine wpOp_step rfl ?_
      intro K hK
      obtain ⟨v, s1, s2, s3⟩ := hA2 (hd 5 (of_decide_eq_true (by kernel_rfl)))
      have hs2 : 17 < a.tmps.size := by rw [hsz.out]; omega
      go_simp
      refine hK _ _ ⟨hS.put hn 8 17 _ rfl (by rw [hsz0]; omega) (fun u h => by cases h), hb, fun h => (by
        rw [getD_set hls, if_neg (by omega)] at h
        obtain ⟨v, s1, s2, s3⟩ := hA0 h
        refine ⟨v, by simpa using s1, s2, fun h' => ?_⟩
        rw [getD_set hls, if_neg (by omega)] at h'
        simpa using s3 h'), fun h => (by
        rw [getD_set hls, if_neg (by omega)] at h
        obtain ⟨v, s1, s2, s3⟩ := hA1 h
        refine ⟨v, by simpa using s1, s2, fun h' => ?_⟩
        rw [getD_set hls, if_neg (by omega)] at h'
        simpa using s3 h'), fun h => ⟨v, by simpa using s1, s2, fun h' => ?_⟩⟩
      simp [hs2]
  · intro listed a w hall ⟨hS, hb, hA0, hA1, hA2⟩
    obtain ⟨u0, s0, r0, t0⟩ := hA0 (hall 1 (by decide))
    have e0 := t0 (hall 6 (by decide))
    obtain ⟨u1, s1, r1, t1⟩ := hA1 (hall 3 (by decide))
    have e1 := t1 (hall 7 (by decide))
    obtain ⟨u2, s2, r2, t2⟩ := hA2 (hall 5 (by decide))
    have e2 := t2 (hall 8 (by decide))
    have hf := hS.frame [(79, .agg #[x00, x01, x02, x03, x04]), (80, u0), (81, .agg #[x10, x11, x12, x13, x14]), (82, u1), (83, .agg #[x20, x21, x22, x23, x24]), (84, u2), (15, u0), (16, u1), (17, u2)] rfl (of_decide_eq_true (by kernel_rfl)) (by
      simp only [List.map_cons, List.map_nil, List.all_cons, List.all_nil, hsz0]; rfl) (by
      intro p hp
      simp only [List.mem_cons, List.not_mem_nil, or_false] at hp
      rcases hp with rfl | rfl | rfl | rfl | rfl | rfl | rfl | rfl | rfl
      · exact hS.val 0 79 _ (hall 0 (by decide)) rfl rfl
      · exact s0
      · exact hS.val 2 81 _ (hall 2 (by decide)) rfl rfl
      · exact s1
      · exact hS.val 4 83 _ (hall 4 (by decide)) rfl rfl
      · exact s2
      · exact e0
      · exact e1
      · exact e2)
    rw [hf]
    exact hQ w u0 u1 u2 hb r0 r1 r2
end Go.Proofs.Ytgpkdjhllekihaa.Geo
