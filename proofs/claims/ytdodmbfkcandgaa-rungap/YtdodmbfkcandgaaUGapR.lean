/- RunGap's last statement with three calls, drawn, by an invariant. -/
import Derived.Test.YtdodmbfkcandgaaUAsksR
import Derived.Test.YtdodmbfkcandgaaVInv
namespace Go.Proofs.Ytdodmbfkcandgaa.Rnn
set_option linter.unusedVariables false
set_option maxRecDepth 100000
open Go.RowKit Go.Shelf
open Go.Proofs.Ytdodmbfkcandgaa.Ven (Box mixed Slots wp_region_inv getD_set start_false putAll Slots.start slot_of Sl)

set_option maxHeartbeats 16000000 in
theorem gap_region {Q : Exit → Act → World → Prop} (a0 : Act) (W : World) (hsz0 : a0.tmps.size = 60) (vb wb : Nat) (a1 a2 a3 u1 : Option Addr) (n1 c1 n2 c2 n3 c3 un uc : Nat) (gapv gapw rad : Int) (L1 L2 : List (List Int)) (hle : L1.length ≤ L2.length)
    (hx : Box W vb 26 #[.slice a1 n1 c1, .int .i64 gapv, .int .i64 rad, .slice a2 n2 c2, .slice a3 n3 c3]) (hy : Box W wb 26 #[.slice a1 n1 c1, .int .i64 gapw, .int .i64 rad, .slice a2 n2 c2, .slice a3 n3 c3])
    (h7_ : a0.tmps[7]? = some (.pointer (some ⟨vb, 0, none⟩))) (h8_ : a0.tmps[8]? = some (.pointer (some ⟨wb, 0, none⟩))) (h1_ : a0.tmps[1]? = some (.slice u1 un uc))
    (hc0 : ∀ w, Below W.heap.size W w → Calls Try.prog 8 #[] w fun e w' => e = .returned (.bool true) ∧ Below w.heap.size w w')
    (hc4 : ∀ w, Below W.heap.size W w → Calls Try.prog 17 #[.agg #[.slice a1 n1 c1, .int .i64 gapw, .int .i64 rad, .slice a2 n2 c2, .slice a3 n3 c3], .slice u1 un uc] w fun e w' => ∃ v, e = .returned v ∧ RowsS w' v L1 ∧ Below w.heap.size w w')
    (hc8 : ∀ w, Below W.heap.size W w → Calls Try.prog 17 #[.agg #[.slice a1 n1 c1, .int .i64 gapv, .int .i64 rad, .slice a2 n2 c2, .slice a3 n3 c3], .slice u1 un uc] w fun e w' => ∃ v, e = .returned v ∧ RowsS w' v L2 ∧ Below w.heap.size w w')
    (hQ : ∀ w' v4 v8, Below W.heap.size W w' → Q .normal { tmps := putAll a0.tmps [(48, .bool true), (49, .bool true), (50, .agg #[.slice a1 n1 c1, .int .i64 gapw, .int .i64 rad, .slice a2 n2 c2, .slice a3 n3 c3]), (51, .slice u1 un uc), (52, v4), (53, .int .i64 L1.length), (54, .agg #[.slice a1 n1 c1, .int .i64 gapv, .int .i64 rad, .slice a2 n2 c2, .slice a3 n3 c3]), (55, .slice u1 un uc), (56, v8), (57, .int .i64 L2.length), (58, .bool true), (59, .bool true), (6, .bool true)], defers := a0.defers } w') :
    (Code.region 9 #[{ dst := some 48, op := Op.call { callee := Callee.value (Operand.func 8), args := #[], argTypes := #[] }, type := 4, pos := "more.go:18", after := #[], guard := none }, { dst := some 49, op := Op.move (Operand.tmp 48), type := 4, pos := "more.go:18", after := #[{ on := 0, ground := Ground.data }, { on := 0, ground := Ground.chain }], guard := none }, { dst := some 50, op := Op.load 26 (Operand.tmp 8), type := 26, pos := "more.go:18", after := #[{ on := 1, ground := Ground.guard }], guard := some (1, true) }, { dst := some 51, op := Op.move (Operand.tmp 1), type := 27, pos := "more.go:18", after := #[{ on := 1, ground := Ground.guard }], guard := some (1, true) }, { dst := some 52, op := Op.call { callee := Callee.value (Operand.func 17), args := #[Operand.tmp 50, Operand.tmp 51], argTypes := #[26, 27] }, type := 36, pos := "more.go:18", after := #[{ on := 2, ground := Ground.data }, { on := 3, ground := Ground.data }, { on := 1, ground := Ground.chain }, { on := 1, ground := Ground.guard }], guard := some (1, true) }, { dst := some 53, op := Op.call { callee := Callee.builtin Builtin.len, args := #[Operand.tmp 52], argTypes := #[36] }, type := 3, pos := "more.go:18", after := #[{ on := 4, ground := Ground.data }, { on := 1, ground := Ground.guard }], guard := some (1, true) }, { dst := some 54, op := Op.load 26 (Operand.tmp 7), type := 26, pos := "more.go:18", after := #[{ on := 1, ground := Ground.guard }], guard := some (1, true) }, { dst := some 55, op := Op.move (Operand.tmp 1), type := 27, pos := "more.go:18", after := #[{ on := 1, ground := Ground.guard }], guard := some (1, true) }, { dst := some 56, op := Op.call { callee := Callee.value (Operand.func 17), args := #[Operand.tmp 54, Operand.tmp 55], argTypes := #[26, 27] }, type := 36, pos := "more.go:18", after := #[{ on := 6, ground := Ground.data }, { on := 7, ground := Ground.data }, { on := 4, ground := Ground.chain }, { on := 1, ground := Ground.guard }], guard := some (1, true) }, { dst := some 57, op := Op.call { callee := Callee.builtin Builtin.len, args := #[Operand.tmp 56], argTypes := #[36] }, type := 3, pos := "more.go:18", after := #[{ on := 8, ground := Ground.data }, { on := 1, ground := Ground.guard }], guard := some (1, true) }, { dst := some 58, op := Op.binOp BinOp.leq 3 (Operand.tmp 53) (Operand.tmp 57) 3, type := 4, pos := "more.go:18", after := #[{ on := 5, ground := Ground.data }, { on := 9, ground := Ground.data }, { on := 1, ground := Ground.guard }], guard := some (1, true) }, { dst := some 59, op := Op.pick (Operand.tmp 49) (Operand.tmp 58) (Operand.const (Value.bool false)), type := 4, pos := "more.go:18", after := #[{ on := 1, ground := Ground.data }, { on := 10, ground := Ground.data }], guard := none }, { dst := some 6, op := Op.assign (Operand.tmp 59), type := 4, pos := "more.go:18", after := #[{ on := 11, ground := Ground.data }, { on := 8, ground := Ground.chain }, { on := 0, ground := Ground.phase }, { on := 1, ground := Ground.phase }, { on := 2, ground := Ground.phase }, { on := 3, ground := Ground.phase }, { on := 4, ground := Ground.phase }, { on := 5, ground := Ground.phase }, { on := 6, ground := Ground.phase }, { on := 7, ground := Ground.phase }, { on := 8, ground := Ground.phase }, { on := 9, ground := Ground.phase }, { on := 10, ground := Ground.phase }, { on := 11, ground := Ground.phase }], guard := none }] true).wp Try.prog Q a0 W := by
  have hn : ([some 48, some 49, some 50, some 51, some 52, some 53, some 54, some 55, some 56, some 57, some 58, some 59, some 6] : List (Option Nat)).Pairwise (fun x y => x = none ∨ x ≠ y) := of_decide_eq_true (by kernel_rfl)
  have hlz : (L1.length : Int) ≤ (L2.length : Int) := by omega
  clear hle
  refine wp_region_inv mixed (fun listed a w => Slots a0 [some 48, some 49, some 50, some 51, some 52, some 53, some 54, some 55, some 56, some 57, some 58, some 59, some 6] [some (.bool true), some (.bool true), some (.agg #[.slice a1 n1 c1, .int .i64 gapw, .int .i64 rad, .slice a2 n2 c2, .slice a3 n3 c3]), some (.slice u1 un uc), none, some (.int .i64 L1.length), some (.agg #[.slice a1 n1 c1, .int .i64 gapv, .int .i64 rad, .slice a2 n2 c2, .slice a3 n3 c3]), some (.slice u1 un uc), none, some (.int .i64 L2.length), some (.bool true), some (.bool true), some (.bool true)] listed a ∧ Below W.heap.size W w ∧ (listed.getD 4 false = true → ∃ v, a.tmps[52]? = some v ∧ RowsS w v L1) ∧ (listed.getD 8 false = true → ∃ v, a.tmps[56]? = some v ∧ RowsS w v L2)) (by kernel_rfl) ?_ ?_ ?_
  · exact ⟨Slots.start _ _ _ _, (Below.refl _ W).drew, fun h => (by rw [start_false] at h; cases h), fun h => (by rw [start_false] at h; cases h)⟩
  · intro listed a w i' hsl hilt hl hd hcl ⟨hS, hb, hA4, hA8⟩
    have hsz : Hid (a.tmps.size = 60) := hS.size.trans hsz0
    have hls : i' < listed.size := by rw [hsl]; exact hilt
    have hcase : i' = 0 ∨ i' = 1 ∨ i' = 2 ∨ i' = 3 ∨ i' = 4 ∨ i' = 5 ∨ i' = 6 ∨ i' = 7 ∨ i' = 8 ∨ i' = 9 ∨ i' = 10 ∨ i' = 11 ∨ i' = 12 := by
      have : i' < 13 := hilt
      omega
    rcases hcase with rfl | rfl | rfl | rfl | rfl | rfl | rfl | rfl | rfl | rfl | rfl | rfl | rfl
    ·
      refine wpOp_step (o := { dst := some 48, op := Op.call { callee := Callee.value (Operand.func 8), args := #[], argTypes := #[] }, type := 4, pos := "more.go:18", after := #[], guard := none }) rfl ?_
      intro K hK
      have hc := hc0 w hb
      go_simp
      go_at_call 8
      refine hc.mono ?_
      rintro e w' ⟨rfl, hb2⟩
      exact hK _ _ ⟨hS.put hn 0 48 _ rfl (by rw [hsz0]; omega) (fun u h => by injection h with h; injection h with h; exact h.symm), hb.trans (hb2.mono hb.size), fun h => by
        rw [getD_set hls, if_neg (by omega)] at h
        obtain ⟨v, hv1, hv2⟩ := hA4 h
        exact ⟨v, by simpa using hv1, hv2.next hb2⟩, fun h => by
        rw [getD_set hls, if_neg (by omega)] at h
        obtain ⟨v, hv1, hv2⟩ := hA8 h
        exact ⟨v, by simpa using hv1, hv2.next hb2⟩⟩
    ·
      refine wpOp_step (o := { dst := some 49, op := Op.move (Operand.tmp 48), type := 4, pos := "more.go:18", after := #[{ on := 0, ground := Ground.data }, { on := 0, ground := Ground.chain }], guard := none }) rfl ?_
      intro K hK
      have q48_ : a.tmps[48]? = some (.bool true) := hS.val 0 48 _ (hd 0 (of_decide_eq_true (by kernel_rfl))) rfl rfl
      go_simp
      exact hK _ _ ⟨hS.put hn 1 49 _ rfl (by rw [hsz0]; omega) (fun u h => by injection h with h; injection h with h; exact h.symm), hb, fun h => by
        rw [getD_set hls, if_neg (by omega)] at h
        obtain ⟨v, hv1, hv2⟩ := hA4 h
        exact ⟨v, by simpa using hv1, hv2⟩, fun h => by
        rw [getD_set hls, if_neg (by omega)] at h
        obtain ⟨v, hv1, hv2⟩ := hA8 h
        exact ⟨v, by simpa using hv1, hv2⟩⟩
    ·
      refine wpOp_step (o := { dst := some 50, op := Op.load 26 (Operand.tmp 8), type := 26, pos := "more.go:18", after := #[{ on := 1, ground := Ground.guard }], guard := some (1, true) }) rfl ?_
      intro K hK
      have q49_ : a.tmps[49]? = some (.bool true) := hS.val 1 49 _ (hd 1 (of_decide_eq_true (by kernel_rfl))) rfl rfl
      have q8_ : a.tmps[8]? = some (.pointer (some ⟨wb, 0, none⟩)) := (hS.keep 8 (of_decide_eq_true (by kernel_rfl))).trans h8_
      rw [if_pos (wanted_guard (j := 1) (d := 49) (b := true) rfl rfl q49_)]
      have m0 := (hy.next hb).cell 0 _ rfl
      have m1 := (hy.next hb).cell 1 _ rfl
      have m2 := (hy.next hb).cell 2 _ rfl
      have m3 := (hy.next hb).cell 3 _ rfl
      have m4 := (hy.next hb).cell 4 _ rfl
      go_simp
      exact hK _ _ ⟨hS.put hn 2 50 _ rfl (by rw [hsz0]; omega) (fun u h => by injection h with h; injection h with h; exact h.symm), hb, fun h => by
        rw [getD_set hls, if_neg (by omega)] at h
        obtain ⟨v, hv1, hv2⟩ := hA4 h
        exact ⟨v, by simpa using hv1, hv2⟩, fun h => by
        rw [getD_set hls, if_neg (by omega)] at h
        obtain ⟨v, hv1, hv2⟩ := hA8 h
        exact ⟨v, by simpa using hv1, hv2⟩⟩
    ·
      refine wpOp_step (o := { dst := some 51, op := Op.move (Operand.tmp 1), type := 27, pos := "more.go:18", after := #[{ on := 1, ground := Ground.guard }], guard := some (1, true) }) rfl ?_
      intro K hK
      have q49_ : a.tmps[49]? = some (.bool true) := hS.val 1 49 _ (hd 1 (of_decide_eq_true (by kernel_rfl))) rfl rfl
      have q1_ : a.tmps[1]? = some (.slice u1 un uc) := (hS.keep 1 (of_decide_eq_true (by kernel_rfl))).trans h1_
      rw [if_pos (wanted_guard (j := 1) (d := 49) (b := true) rfl rfl q49_)]
      go_simp
      exact hK _ _ ⟨hS.put hn 3 51 _ rfl (by rw [hsz0]; omega) (fun u h => by injection h with h; injection h with h; exact h.symm), hb, fun h => by
        rw [getD_set hls, if_neg (by omega)] at h
        obtain ⟨v, hv1, hv2⟩ := hA4 h
        exact ⟨v, by simpa using hv1, hv2⟩, fun h => by
        rw [getD_set hls, if_neg (by omega)] at h
        obtain ⟨v, hv1, hv2⟩ := hA8 h
        exact ⟨v, by simpa using hv1, hv2⟩⟩
    ·
      refine wpOp_step (o := { dst := some 52, op := Op.call { callee := Callee.value (Operand.func 17), args := #[Operand.tmp 50, Operand.tmp 51], argTypes := #[26, 27] }, type := 36, pos := "more.go:18", after := #[{ on := 2, ground := Ground.data }, { on := 3, ground := Ground.data }, { on := 1, ground := Ground.chain }, { on := 1, ground := Ground.guard }], guard := some (1, true) }) rfl ?_
      intro K hK
      have q49_ : a.tmps[49]? = some (.bool true) := hS.val 1 49 _ (hd 1 (of_decide_eq_true (by kernel_rfl))) rfl rfl
      have q50_ : a.tmps[50]? = some (.agg #[.slice a1 n1 c1, .int .i64 gapw, .int .i64 rad, .slice a2 n2 c2, .slice a3 n3 c3]) := hS.val 2 50 _ (hd 2 (of_decide_eq_true (by kernel_rfl))) rfl rfl
      have q51_ : a.tmps[51]? = some (.slice u1 un uc) := hS.val 3 51 _ (hd 3 (of_decide_eq_true (by kernel_rfl))) rfl rfl
      rw [if_pos (wanted_guard (j := 1) (d := 49) (b := true) rfl rfl q49_)]
      have hc := hc4 w hb
      go_simp
      go_at_call 17
      refine hc.mono ?_
      rintro e w' ⟨v, rfl, hrow, hb2⟩
      have hs2 : 52 < a.tmps.size := by rw [hsz.out]; omega
      exact hK _ _ ⟨hS.put hn 4 52 _ rfl (by rw [hsz0]; omega) (fun u h => by cases h), hb.trans (hb2.mono hb.size), fun h => ⟨v, by simp [hs2], hrow⟩, fun h => by
        rw [getD_set hls, if_neg (by omega)] at h
        obtain ⟨v, hv1, hv2⟩ := hA8 h
        exact ⟨v, by simpa using hv1, hv2.next hb2⟩⟩
    ·
      refine wpOp_step (o := { dst := some 53, op := Op.call { callee := Callee.builtin Builtin.len, args := #[Operand.tmp 52], argTypes := #[36] }, type := 3, pos := "more.go:18", after := #[{ on := 4, ground := Ground.data }, { on := 1, ground := Ground.guard }], guard := some (1, true) }) rfl ?_
      intro K hK
      have q49_ : a.tmps[49]? = some (.bool true) := hS.val 1 49 _ (hd 1 (of_decide_eq_true (by kernel_rfl))) rfl rfl
      rw [if_pos (wanted_guard (j := 1) (d := 49) (b := true) rfl rfl q49_)]
      obtain ⟨vr, hvr, hpr⟩ := hA4 (hd 4 (of_decide_eq_true (by kernel_rfl)))
      obtain ⟨ra, rc, rfl⟩ := hpr.slice
      go_simp
      exact hK _ _ ⟨hS.put hn 5 53 _ rfl (by rw [hsz0]; omega) (fun u h => by injection h with h; injection h with h; exact h.symm), hb, fun h => by
        rw [getD_set hls, if_neg (by omega)] at h
        obtain ⟨v, hv1, hv2⟩ := hA4 h
        exact ⟨v, by simpa using hv1, hv2⟩, fun h => by
        rw [getD_set hls, if_neg (by omega)] at h
        obtain ⟨v, hv1, hv2⟩ := hA8 h
        exact ⟨v, by simpa using hv1, hv2⟩⟩
    ·
      refine wpOp_step (o := { dst := some 54, op := Op.load 26 (Operand.tmp 7), type := 26, pos := "more.go:18", after := #[{ on := 1, ground := Ground.guard }], guard := some (1, true) }) rfl ?_
      intro K hK
      have q49_ : a.tmps[49]? = some (.bool true) := hS.val 1 49 _ (hd 1 (of_decide_eq_true (by kernel_rfl))) rfl rfl
      have q7_ : a.tmps[7]? = some (.pointer (some ⟨vb, 0, none⟩)) := (hS.keep 7 (of_decide_eq_true (by kernel_rfl))).trans h7_
      rw [if_pos (wanted_guard (j := 1) (d := 49) (b := true) rfl rfl q49_)]
      have m0 := (hx.next hb).cell 0 _ rfl
      have m1 := (hx.next hb).cell 1 _ rfl
      have m2 := (hx.next hb).cell 2 _ rfl
      have m3 := (hx.next hb).cell 3 _ rfl
      have m4 := (hx.next hb).cell 4 _ rfl
      go_simp
      exact hK _ _ ⟨hS.put hn 6 54 _ rfl (by rw [hsz0]; omega) (fun u h => by injection h with h; injection h with h; exact h.symm), hb, fun h => by
        rw [getD_set hls, if_neg (by omega)] at h
        obtain ⟨v, hv1, hv2⟩ := hA4 h
        exact ⟨v, by simpa using hv1, hv2⟩, fun h => by
        rw [getD_set hls, if_neg (by omega)] at h
        obtain ⟨v, hv1, hv2⟩ := hA8 h
        exact ⟨v, by simpa using hv1, hv2⟩⟩
    ·
      refine wpOp_step (o := { dst := some 55, op := Op.move (Operand.tmp 1), type := 27, pos := "more.go:18", after := #[{ on := 1, ground := Ground.guard }], guard := some (1, true) }) rfl ?_
      intro K hK
      have q49_ : a.tmps[49]? = some (.bool true) := hS.val 1 49 _ (hd 1 (of_decide_eq_true (by kernel_rfl))) rfl rfl
      have q1_ : a.tmps[1]? = some (.slice u1 un uc) := (hS.keep 1 (of_decide_eq_true (by kernel_rfl))).trans h1_
      rw [if_pos (wanted_guard (j := 1) (d := 49) (b := true) rfl rfl q49_)]
      go_simp
      exact hK _ _ ⟨hS.put hn 7 55 _ rfl (by rw [hsz0]; omega) (fun u h => by injection h with h; injection h with h; exact h.symm), hb, fun h => by
        rw [getD_set hls, if_neg (by omega)] at h
        obtain ⟨v, hv1, hv2⟩ := hA4 h
        exact ⟨v, by simpa using hv1, hv2⟩, fun h => by
        rw [getD_set hls, if_neg (by omega)] at h
        obtain ⟨v, hv1, hv2⟩ := hA8 h
        exact ⟨v, by simpa using hv1, hv2⟩⟩
    ·
      refine wpOp_step (o := { dst := some 56, op := Op.call { callee := Callee.value (Operand.func 17), args := #[Operand.tmp 54, Operand.tmp 55], argTypes := #[26, 27] }, type := 36, pos := "more.go:18", after := #[{ on := 6, ground := Ground.data }, { on := 7, ground := Ground.data }, { on := 4, ground := Ground.chain }, { on := 1, ground := Ground.guard }], guard := some (1, true) }) rfl ?_
      intro K hK
      have q49_ : a.tmps[49]? = some (.bool true) := hS.val 1 49 _ (hd 1 (of_decide_eq_true (by kernel_rfl))) rfl rfl
      have q54_ : a.tmps[54]? = some (.agg #[.slice a1 n1 c1, .int .i64 gapv, .int .i64 rad, .slice a2 n2 c2, .slice a3 n3 c3]) := hS.val 6 54 _ (hd 6 (of_decide_eq_true (by kernel_rfl))) rfl rfl
      have q55_ : a.tmps[55]? = some (.slice u1 un uc) := hS.val 7 55 _ (hd 7 (of_decide_eq_true (by kernel_rfl))) rfl rfl
      rw [if_pos (wanted_guard (j := 1) (d := 49) (b := true) rfl rfl q49_)]
      have hc := hc8 w hb
      go_simp
      go_at_call 17
      refine hc.mono ?_
      rintro e w' ⟨v, rfl, hrow, hb2⟩
      have hs2 : 56 < a.tmps.size := by rw [hsz.out]; omega
      exact hK _ _ ⟨hS.put hn 8 56 _ rfl (by rw [hsz0]; omega) (fun u h => by cases h), hb.trans (hb2.mono hb.size), fun h => by
        rw [getD_set hls, if_neg (by omega)] at h
        obtain ⟨v, hv1, hv2⟩ := hA4 h
        exact ⟨v, by simpa using hv1, hv2.next hb2⟩, fun h => ⟨v, by simp [hs2], hrow⟩⟩
    ·
      refine wpOp_step (o := { dst := some 57, op := Op.call { callee := Callee.builtin Builtin.len, args := #[Operand.tmp 56], argTypes := #[36] }, type := 3, pos := "more.go:18", after := #[{ on := 8, ground := Ground.data }, { on := 1, ground := Ground.guard }], guard := some (1, true) }) rfl ?_
      intro K hK
      have q49_ : a.tmps[49]? = some (.bool true) := hS.val 1 49 _ (hd 1 (of_decide_eq_true (by kernel_rfl))) rfl rfl
      rw [if_pos (wanted_guard (j := 1) (d := 49) (b := true) rfl rfl q49_)]
      obtain ⟨vr, hvr, hpr⟩ := hA8 (hd 8 (of_decide_eq_true (by kernel_rfl)))
      obtain ⟨ra, rc, rfl⟩ := hpr.slice
      go_simp
      exact hK _ _ ⟨hS.put hn 9 57 _ rfl (by rw [hsz0]; omega) (fun u h => by injection h with h; injection h with h; exact h.symm), hb, fun h => by
        rw [getD_set hls, if_neg (by omega)] at h
        obtain ⟨v, hv1, hv2⟩ := hA4 h
        exact ⟨v, by simpa using hv1, hv2⟩, fun h => by
        rw [getD_set hls, if_neg (by omega)] at h
        obtain ⟨v, hv1, hv2⟩ := hA8 h
        exact ⟨v, by simpa using hv1, hv2⟩⟩
    ·
      refine wpOp_step (o := { dst := some 58, op := Op.binOp BinOp.leq 3 (Operand.tmp 53) (Operand.tmp 57) 3, type := 4, pos := "more.go:18", after := #[{ on := 5, ground := Ground.data }, { on := 9, ground := Ground.data }, { on := 1, ground := Ground.guard }], guard := some (1, true) }) rfl ?_
      intro K hK
      have q49_ : a.tmps[49]? = some (.bool true) := hS.val 1 49 _ (hd 1 (of_decide_eq_true (by kernel_rfl))) rfl rfl
      have q53_ : a.tmps[53]? = some (.int .i64 L1.length) := hS.val 5 53 _ (hd 5 (of_decide_eq_true (by kernel_rfl))) rfl rfl
      have q57_ : a.tmps[57]? = some (.int .i64 L2.length) := hS.val 9 57 _ (hd 9 (of_decide_eq_true (by kernel_rfl))) rfl rfl
      rw [if_pos (wanted_guard (j := 1) (d := 49) (b := true) rfl rfl q49_)]
      go_simp
      exact hK _ _ ⟨hS.put hn 10 58 _ rfl (by rw [hsz0]; omega) (fun u h => by injection h with h; injection h with h; exact h.symm), hb, fun h => by
        rw [getD_set hls, if_neg (by omega)] at h
        obtain ⟨v, hv1, hv2⟩ := hA4 h
        exact ⟨v, by simpa using hv1, hv2⟩, fun h => by
        rw [getD_set hls, if_neg (by omega)] at h
        obtain ⟨v, hv1, hv2⟩ := hA8 h
        exact ⟨v, by simpa using hv1, hv2⟩⟩
    ·
      refine wpOp_step (o := { dst := some 59, op := Op.pick (Operand.tmp 49) (Operand.tmp 58) (Operand.const (Value.bool false)), type := 4, pos := "more.go:18", after := #[{ on := 1, ground := Ground.data }, { on := 10, ground := Ground.data }], guard := none }) rfl ?_
      intro K hK
      have q49_ : a.tmps[49]? = some (.bool true) := hS.val 1 49 _ (hd 1 (of_decide_eq_true (by kernel_rfl))) rfl rfl
      have q58_ : a.tmps[58]? = some (.bool true) := hS.val 10 58 _ (hd 10 (of_decide_eq_true (by kernel_rfl))) rfl rfl
      go_simp
      exact hK _ _ ⟨hS.put hn 11 59 _ rfl (by rw [hsz0]; omega) (fun u h => by injection h with h; injection h with h; exact h.symm), hb, fun h => by
        rw [getD_set hls, if_neg (by omega)] at h
        obtain ⟨v, hv1, hv2⟩ := hA4 h
        exact ⟨v, by simpa using hv1, hv2⟩, fun h => by
        rw [getD_set hls, if_neg (by omega)] at h
        obtain ⟨v, hv1, hv2⟩ := hA8 h
        exact ⟨v, by simpa using hv1, hv2⟩⟩
    ·
      refine wpOp_step (o := { dst := some 6, op := Op.assign (Operand.tmp 59), type := 4, pos := "more.go:18", after := #[{ on := 11, ground := Ground.data }, { on := 8, ground := Ground.chain }, { on := 0, ground := Ground.phase }, { on := 1, ground := Ground.phase }, { on := 2, ground := Ground.phase }, { on := 3, ground := Ground.phase }, { on := 4, ground := Ground.phase }, { on := 5, ground := Ground.phase }, { on := 6, ground := Ground.phase }, { on := 7, ground := Ground.phase }, { on := 8, ground := Ground.phase }, { on := 9, ground := Ground.phase }, { on := 10, ground := Ground.phase }, { on := 11, ground := Ground.phase }], guard := none }) rfl ?_
      intro K hK
      have q59_ : a.tmps[59]? = some (.bool true) := hS.val 11 59 _ (hd 11 (of_decide_eq_true (by kernel_rfl))) rfl rfl
      go_simp
      exact hK _ _ ⟨hS.put hn 12 6 _ rfl (by rw [hsz0]; omega) (fun u h => by injection h with h; injection h with h; exact h.symm), hb, fun h => by
        rw [getD_set hls, if_neg (by omega)] at h
        obtain ⟨v, hv1, hv2⟩ := hA4 h
        exact ⟨v, by simpa using hv1, hv2⟩, fun h => by
        rw [getD_set hls, if_neg (by omega)] at h
        obtain ⟨v, hv1, hv2⟩ := hA8 h
        exact ⟨v, by simpa using hv1, hv2⟩⟩
  · intro listed a w hall ⟨hS, hb, hA4, hA8⟩
    obtain ⟨v4, hv4, hi4⟩ := hA4 (hall 4 (by decide))
    obtain ⟨v8, hv8, hi8⟩ := hA8 (hall 8 (by decide))
    have hf := hS.frame [(48, .bool true), (49, .bool true), (50, .agg #[.slice a1 n1 c1, .int .i64 gapw, .int .i64 rad, .slice a2 n2 c2, .slice a3 n3 c3]), (51, .slice u1 un uc), (52, v4), (53, .int .i64 L1.length), (54, .agg #[.slice a1 n1 c1, .int .i64 gapv, .int .i64 rad, .slice a2 n2 c2, .slice a3 n3 c3]), (55, .slice u1 un uc), (56, v8), (57, .int .i64 L2.length), (58, .bool true), (59, .bool true), (6, .bool true)] rfl (of_decide_eq_true (by kernel_rfl)) (by
      simp only [List.map_cons, List.map_nil, List.all_cons, List.all_nil, hsz0]; rfl) (by
      intro p hp
      simp only [List.mem_cons, List.not_mem_nil, or_false] at hp
      rcases hp with rfl | rfl | rfl | rfl | rfl | rfl | rfl | rfl | rfl | rfl | rfl | rfl | rfl
      · exact hS.val 0 48 _ (hall 0 (by decide)) rfl rfl
      · exact hS.val 1 49 _ (hall 1 (by decide)) rfl rfl
      · exact hS.val 2 50 _ (hall 2 (by decide)) rfl rfl
      · exact hS.val 3 51 _ (hall 3 (by decide)) rfl rfl
      · exact hv4
      · exact hS.val 5 53 _ (hall 5 (by decide)) rfl rfl
      · exact hS.val 6 54 _ (hall 6 (by decide)) rfl rfl
      · exact hS.val 7 55 _ (hall 7 (by decide)) rfl rfl
      · exact hv8
      · exact hS.val 9 57 _ (hall 9 (by decide)) rfl rfl
      · exact hS.val 10 58 _ (hall 10 (by decide)) rfl rfl
      · exact hS.val 11 59 _ (hall 11 (by decide)) rfl rfl
      · exact hS.val 12 6 _ (hall 12 (by decide)) rfl rfl)
    rw [hf]
    exact hQ w v4 v8 hb
end Go.Proofs.Ytdodmbfkcandgaa.Rnn
