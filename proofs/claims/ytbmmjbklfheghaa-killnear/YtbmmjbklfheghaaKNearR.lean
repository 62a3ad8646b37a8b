/- KillNear's drawn statements, by an invariant. -/
import Derived.Test.YtbmmjbklfheghaaKTold
import Derived.Test.YtbmmjbklfheghaaCGuard
namespace Go.Proofs.Ytbmmjbklfheghaa.Kll
set_option linter.unusedVariables false
set_option maxRecDepth 100000
open Go.RowKit Go.Shelf
open Go.Proofs.Ytbmmjbklfheghaa.Ven (Box mixed Slots wp_region_inv getD_set start_false putAll Slots.start slot_of Sl intC)
open Go.Proofs.Ytbmmjbklfheghaa.Com (hid' MarksAt MarksV Ints wanted_guard unwanted_guard)

set_option maxHeartbeats 16000000 in
theorem near_region {Q : Exit → Act → World → Prop} (a0 : Act) (W : World) (hsz0 : a0.tmps.size = 117) (vb pb po ii : Nat) (a1 a2 : Option Addr) (n1 c1 n2 c2 n3 c3 : Nat) (gap rad px py pr : Int) (NL : List Int) (hi : ii < n3)
    (hx : Box W vb 26 #[.slice a1 n1 c1, .int .i64 gap, .int .i64 rad, .slice a2 n2 c2, .slice (some ⟨pb, po, none⟩) n3 c3]) (hpl : pb < W.heap.size) (hp0 : W.cell? ⟨pb, po + ii * 3, none⟩ = some (.int .i64 px)) (hp1 : W.cell? ⟨pb, po + ii * 3 + 1, none⟩ = some (.int .i64 py)) (hp2 : W.cell? ⟨pb, po + ii * 3 + 2, none⟩ = some (.int .i64 pr))
    (h3_ : a0.tmps[3]? = some (.pointer (some ⟨vb, 0, none⟩))) (h6_ : a0.tmps[6]? = some (.int .i64 ii))
    (hc19 : ∀ w, Below W.heap.size W w → Calls Try.prog 17 #[.agg #[.slice a1 n1 c1, .int .i64 gap, .int .i64 rad, .slice a2 n2 c2, .slice (some ⟨pb, po, none⟩) n3 c3], .int .i64 px, .int .i64 py, .int .i64 pr] w fun e w' => ∃ v, e = .returned v ∧ Ints W.heap.size w' v NL ∧ Below w.heap.size w w')
    (hQ : ∀ w' v19 v20, Below W.heap.size W w' → Ints W.heap.size w' v20 NL → Q .normal { tmps := putAll a0.tmps [(33, .agg #[.slice a1 n1 c1, .int .i64 gap, .int .i64 rad, .slice a2 n2 c2, .slice (some ⟨pb, po, none⟩) n3 c3]), (34, .pointer (some ⟨vb, 4, none⟩)), (35, .slice (some ⟨pb, po, none⟩) n3 c3), (36, .int .i64 ii), (37, .pointer (some ⟨pb, po + ii * 3, none⟩)), (38, .pointer (some ⟨pb, po + ii * 3, none⟩)), (39, .int .i64 px), (40, .pointer (some ⟨vb, 4, none⟩)), (41, .slice (some ⟨pb, po, none⟩) n3 c3), (42, .int .i64 ii), (43, .pointer (some ⟨pb, po + ii * 3, none⟩)), (44, .pointer (some ⟨pb, po + ii * 3 + 1, none⟩)), (45, .int .i64 py), (46, .pointer (some ⟨vb, 4, none⟩)), (47, .slice (some ⟨pb, po, none⟩) n3 c3), (48, .int .i64 ii), (49, .pointer (some ⟨pb, po + ii * 3, none⟩)), (50, .pointer (some ⟨pb, po + ii * 3 + 2, none⟩)), (51, .int .i64 pr), (52, v19), (7, v20)], defers := a0.defers } w') :
    (Code.region 10 #[{ dst := some 33, op := Op.load 26 (Operand.tmp 3), type := 26, pos := "law.go:58", after := #[], guard := none }, { dst := some 34, op := Op.fieldAddr 26 (Operand.tmp 3) 4, type := 0, pos := "law.go:58", after := #[], guard := none }, { dst := some 35, op := Op.load 24 (Operand.tmp 34), type := 24, pos := "law.go:58", after := #[{ on := 1, ground := Ground.data }], guard := none }, { dst := some 36, op := Op.move (Operand.tmp 6), type := 3, pos := "law.go:58", after := #[], guard := none }, { dst := some 37, op := Op.indexAddr 24 (Operand.tmp 35) (Operand.tmp 36), type := 0, pos := "law.go:58", after := #[{ on := 2, ground := Ground.data }, { on := 3, ground := Ground.data }], guard := none }, { dst := some 38, op := Op.fieldAddr 41 (Operand.tmp 37) 0, type := 0, pos := "law.go:58", after := #[{ on := 4, ground := Ground.data }], guard := none }, { dst := some 39, op := Op.load 3 (Operand.tmp 38), type := 3, pos := "law.go:58", after := #[{ on := 5, ground := Ground.data }], guard := none }, { dst := some 40, op := Op.fieldAddr 26 (Operand.tmp 3) 4, type := 0, pos := "law.go:58", after := #[], guard := none }, { dst := some 41, op := Op.load 24 (Operand.tmp 40), type := 24, pos := "law.go:58", after := #[{ on := 7, ground := Ground.data }], guard := none }, { dst := some 42, op := Op.move (Operand.tmp 6), type := 3, pos := "law.go:58", after := #[], guard := none }, { dst := some 43, op := Op.indexAddr 24 (Operand.tmp 41) (Operand.tmp 42), type := 0, pos := "law.go:58", after := #[{ on := 8, ground := Ground.data }, { on := 9, ground := Ground.data }], guard := none }, { dst := some 44, op := Op.fieldAddr 41 (Operand.tmp 43) 1, type := 0, pos := "law.go:58", after := #[{ on := 10, ground := Ground.data }], guard := none }, { dst := some 45, op := Op.load 3 (Operand.tmp 44), type := 3, pos := "law.go:58", after := #[{ on := 11, ground := Ground.data }], guard := none }, { dst := some 46, op := Op.fieldAddr 26 (Operand.tmp 3) 4, type := 0, pos := "law.go:58", after := #[], guard := none }, { dst := some 47, op := Op.load 24 (Operand.tmp 46), type := 24, pos := "law.go:58", after := #[{ on := 13, ground := Ground.data }], guard := none }, { dst := some 48, op := Op.move (Operand.tmp 6), type := 3, pos := "law.go:58", after := #[], guard := none }, { dst := some 49, op := Op.indexAddr 24 (Operand.tmp 47) (Operand.tmp 48), type := 0, pos := "law.go:58", after := #[{ on := 14, ground := Ground.data }, { on := 15, ground := Ground.data }], guard := none }, { dst := some 50, op := Op.fieldAddr 41 (Operand.tmp 49) 2, type := 0, pos := "law.go:58", after := #[{ on := 16, ground := Ground.data }], guard := none }, { dst := some 51, op := Op.load 3 (Operand.tmp 50), type := 3, pos := "law.go:58", after := #[{ on := 17, ground := Ground.data }], guard := none }, { dst := some 52, op := Op.call { callee := Callee.value (Operand.func 17), args := #[Operand.tmp 33, Operand.tmp 39, Operand.tmp 45, Operand.tmp 51], argTypes := #[26, 3, 3, 3] }, type := 23, pos := "law.go:58", after := #[{ on := 0, ground := Ground.data }, { on := 6, ground := Ground.data }, { on := 12, ground := Ground.data }, { on := 18, ground := Ground.data }], guard := none }, { dst := some 7, op := Op.assign (Operand.tmp 52), type := 23, pos := "law.go:58", after := #[{ on := 19, ground := Ground.data }, { on := 19, ground := Ground.chain }, { on := 0, ground := Ground.phase }, { on := 1, ground := Ground.phase }, { on := 2, ground := Ground.phase }, { on := 3, ground := Ground.phase }, { on := 4, ground := Ground.phase }, { on := 5, ground := Ground.phase }, { on := 6, ground := Ground.phase }, { on := 7, ground := Ground.phase }, { on := 8, ground := Ground.phase }, { on := 9, ground := Ground.phase }, { on := 10, ground := Ground.phase }, { on := 11, ground := Ground.phase }, { on := 12, ground := Ground.phase }, { on := 13, ground := Ground.phase }, { on := 14, ground := Ground.phase }, { on := 15, ground := Ground.phase }, { on := 16, ground := Ground.phase }, { on := 17, ground := Ground.phase }, { on := 18, ground := Ground.phase }, { on := 19, ground := Ground.phase }], guard := none }] true).wp Try.prog Q a0 W := by
  have hn : ([some 33, some 34, some 35, some 36, some 37, some 38, some 39, some 40, some 41, some 42, some 43, some 44, some 45, some 46, some 47, some 48, some 49, some 50, some 51, some 52, some 7] : List (Option Nat)).Pairwise (fun x y => x = none ∨ x ≠ y) := of_decide_eq_true (by kernel_rfl)
  have hiz : (ii : Int) < (n3 : Int) := by omega
  refine wp_region_inv mixed (fun listed a w => Slots a0 [some 33, some 34, some 35, some 36, some 37, some 38, some 39, some 40, some 41, some 42, some 43, some 44, some 45, some 46, some 47, some 48, some 49, some 50, some 51, some 52, some 7] [some (.agg #[.slice a1 n1 c1, .int .i64 gap, .int .i64 rad, .slice a2 n2 c2, .slice (some ⟨pb, po, none⟩) n3 c3]), some (.pointer (some ⟨vb, 4, none⟩)), some (.slice (some ⟨pb, po, none⟩) n3 c3), some (.int .i64 ii), some (.pointer (some ⟨pb, po + ii * 3, none⟩)), some (.pointer (some ⟨pb, po + ii * 3, none⟩)), some (.int .i64 px), some (.pointer (some ⟨vb, 4, none⟩)), some (.slice (some ⟨pb, po, none⟩) n3 c3), some (.int .i64 ii), some (.pointer (some ⟨pb, po + ii * 3, none⟩)), some (.pointer (some ⟨pb, po + ii * 3 + 1, none⟩)), some (.int .i64 py), some (.pointer (some ⟨vb, 4, none⟩)), some (.slice (some ⟨pb, po, none⟩) n3 c3), some (.int .i64 ii), some (.pointer (some ⟨pb, po + ii * 3, none⟩)), some (.pointer (some ⟨pb, po + ii * 3 + 2, none⟩)), some (.int .i64 pr), none, none] listed a ∧ Below W.heap.size W w ∧ (listed.getD 19 false = true → ∃ v, a.tmps[52]? = some v ∧ Ints W.heap.size w v NL) ∧ (listed.getD 20 false = true → ∃ v, a.tmps[7]? = some v ∧ Ints W.heap.size w v NL)) (by kernel_rfl) ?_ ?_ ?_
  · exact ⟨Slots.start _ _ _ _, (Below.refl _ W).drew, fun h => (by rw [start_false] at h; cases h), fun h => (by rw [start_false] at h; cases h)⟩
  · intro listed a w i' hsl hilt hl hd hcl ⟨hS, hb, hA19, hA20⟩
    have hsz : Hid (a.tmps.size = 117) := hS.size.trans hsz0
    have hls : i' < listed.size := by rw [hsl]; exact hilt
    have hcase : i' = 0 ∨ i' = 1 ∨ i' = 2 ∨ i' = 3 ∨ i' = 4 ∨ i' = 5 ∨ i' = 6 ∨ i' = 7 ∨ i' = 8 ∨ i' = 9 ∨ i' = 10 ∨ i' = 11 ∨ i' = 12 ∨ i' = 13 ∨ i' = 14 ∨ i' = 15 ∨ i' = 16 ∨ i' = 17 ∨ i' = 18 ∨ i' = 19 ∨ i' = 20 := by
      have : i' < 21 := hilt
      omega
    rcases hcase with rfl | rfl | rfl | rfl | rfl | rfl | rfl | rfl | rfl | rfl | rfl | rfl | rfl | rfl | rfl | rfl | rfl | rfl | rfl | rfl | rfl
    ·
      refine wpOp_step (o := { dst := some 33, op := Op.load 26 (Operand.tmp 3), type := 26, pos := "law.go:58", after := #[], guard := none }) rfl ?_
      intro K hK
      have q3_ : a.tmps[3]? = some (.pointer (some ⟨vb, 0, none⟩)) := (hS.keep 3 (of_decide_eq_true (by kernel_rfl))).trans h3_
      have m0 := (hx.next hb).cell 0 _ rfl
      have m1 := (hx.next hb).cell 1 _ rfl
      have m2 := (hx.next hb).cell 2 _ rfl
      have m3 := (hx.next hb).cell 3 _ rfl
      have m4 := (hx.next hb).cell 4 _ rfl
      go_simp
      exact hK _ _ ⟨hS.put hn 0 33 _ rfl (by rw [hsz0]; omega) (fun u h => by injection h with h; injection h with h; exact h.symm), hb, fun h => by
        rw [getD_set hls, if_neg (by omega)] at h
        obtain ⟨v, hv1, hv2⟩ := hA19 h
        exact ⟨v, by simpa using hv1, hv2⟩, fun h => by
        rw [getD_set hls, if_neg (by omega)] at h
        obtain ⟨v, hv1, hv2⟩ := hA20 h
        exact ⟨v, by simpa using hv1, hv2⟩⟩
    ·
      refine wpOp_step (o := { dst := some 34, op := Op.fieldAddr 26 (Operand.tmp 3) 4, type := 0, pos := "law.go:58", after := #[], guard := none }) rfl ?_
      intro K hK
      have q3_ : a.tmps[3]? = some (.pointer (some ⟨vb, 0, none⟩)) := (hS.keep 3 (of_decide_eq_true (by kernel_rfl))).trans h3_
      go_simp
      exact hK _ _ ⟨hS.put hn 1 34 _ rfl (by rw [hsz0]; omega) (fun u h => by injection h with h; injection h with h; exact h.symm), hb, fun h => by
        rw [getD_set hls, if_neg (by omega)] at h
        obtain ⟨v, hv1, hv2⟩ := hA19 h
        exact ⟨v, by simpa using hv1, hv2⟩, fun h => by
        rw [getD_set hls, if_neg (by omega)] at h
        obtain ⟨v, hv1, hv2⟩ := hA20 h
        exact ⟨v, by simpa using hv1, hv2⟩⟩
    ·
      refine wpOp_step (o := { dst := some 35, op := Op.load 24 (Operand.tmp 34), type := 24, pos := "law.go:58", after := #[{ on := 1, ground := Ground.data }], guard := none }) rfl ?_
      intro K hK
      have q34_ : a.tmps[34]? = some (.pointer (some ⟨vb, 4, none⟩)) := hS.val 1 34 _ (hd 1 (of_decide_eq_true (by kernel_rfl))) rfl rfl
      have m0 := (hx.next hb).cell 0 _ rfl
      have m1 := (hx.next hb).cell 1 _ rfl
      have m2 := (hx.next hb).cell 2 _ rfl
      have m3 := (hx.next hb).cell 3 _ rfl
      have m4 := (hx.next hb).cell 4 _ rfl
      go_simp
      exact hK _ _ ⟨hS.put hn 2 35 _ rfl (by rw [hsz0]; omega) (fun u h => by injection h with h; injection h with h; exact h.symm), hb, fun h => by
        rw [getD_set hls, if_neg (by omega)] at h
        obtain ⟨v, hv1, hv2⟩ := hA19 h
        exact ⟨v, by simpa using hv1, hv2⟩, fun h => by
        rw [getD_set hls, if_neg (by omega)] at h
        obtain ⟨v, hv1, hv2⟩ := hA20 h
        exact ⟨v, by simpa using hv1, hv2⟩⟩
    ·
      refine wpOp_step (o := { dst := some 36, op := Op.move (Operand.tmp 6), type := 3, pos := "law.go:58", after := #[], guard := none }) rfl ?_
      intro K hK
      have q6_ : a.tmps[6]? = some (.int .i64 ii) := (hS.keep 6 (of_decide_eq_true (by kernel_rfl))).trans h6_
      go_simp
      exact hK _ _ ⟨hS.put hn 3 36 _ rfl (by rw [hsz0]; omega) (fun u h => by injection h with h; injection h with h; exact h.symm), hb, fun h => by
        rw [getD_set hls, if_neg (by omega)] at h
        obtain ⟨v, hv1, hv2⟩ := hA19 h
        exact ⟨v, by simpa using hv1, hv2⟩, fun h => by
        rw [getD_set hls, if_neg (by omega)] at h
        obtain ⟨v, hv1, hv2⟩ := hA20 h
        exact ⟨v, by simpa using hv1, hv2⟩⟩
    ·
      refine wpOp_step (o := { dst := some 37, op := Op.indexAddr 24 (Operand.tmp 35) (Operand.tmp 36), type := 0, pos := "law.go:58", after := #[{ on := 2, ground := Ground.data }, { on := 3, ground := Ground.data }], guard := none }) rfl ?_
      intro K hK
      have q35_ : a.tmps[35]? = some (.slice (some ⟨pb, po, none⟩) n3 c3) := hS.val 2 35 _ (hd 2 (of_decide_eq_true (by kernel_rfl))) rfl rfl
      have q36_ : a.tmps[36]? = some (.int .i64 ii) := hS.val 3 36 _ (hd 3 (of_decide_eq_true (by kernel_rfl))) rfl rfl
      go_simp
      exact hK _ _ ⟨hS.put hn 4 37 _ rfl (by rw [hsz0]; omega) (fun u h => by injection h with h; injection h with h; exact h.symm), hb, fun h => by
        rw [getD_set hls, if_neg (by omega)] at h
        obtain ⟨v, hv1, hv2⟩ := hA19 h
        exact ⟨v, by simpa using hv1, hv2⟩, fun h => by
        rw [getD_set hls, if_neg (by omega)] at h
        obtain ⟨v, hv1, hv2⟩ := hA20 h
        exact ⟨v, by simpa using hv1, hv2⟩⟩
    ·
      refine wpOp_step (o := { dst := some 38, op := Op.fieldAddr 41 (Operand.tmp 37) 0, type := 0, pos := "law.go:58", after := #[{ on := 4, ground := Ground.data }], guard := none }) rfl ?_
      intro K hK
      have q37_ : a.tmps[37]? = some (.pointer (some ⟨pb, po + ii * 3, none⟩)) := hS.val 4 37 _ (hd 4 (of_decide_eq_true (by kernel_rfl))) rfl rfl
      go_simp
      exact hK _ _ ⟨hS.put hn 5 38 _ rfl (by rw [hsz0]; omega) (fun u h => by injection h with h; injection h with h; exact h.symm), hb, fun h => by
        rw [getD_set hls, if_neg (by omega)] at h
        obtain ⟨v, hv1, hv2⟩ := hA19 h
        exact ⟨v, by simpa using hv1, hv2⟩, fun h => by
        rw [getD_set hls, if_neg (by omega)] at h
        obtain ⟨v, hv1, hv2⟩ := hA20 h
        exact ⟨v, by simpa using hv1, hv2⟩⟩
    ·
      refine wpOp_step (o := { dst := some 39, op := Op.load 3 (Operand.tmp 38), type := 3, pos := "law.go:58", after := #[{ on := 5, ground := Ground.data }], guard := none }) rfl ?_
      intro K hK
      have q38_ : a.tmps[38]? = some (.pointer (some ⟨pb, po + ii * 3, none⟩)) := hS.val 5 38 _ (hd 5 (of_decide_eq_true (by kernel_rfl))) rfl rfl
      have q0 := (hb.cell (p := ⟨pb, po + ii * 3, none⟩) hpl).trans hp0
      go_simp
      exact hK _ _ ⟨hS.put hn 6 39 _ rfl (by rw [hsz0]; omega) (fun u h => by injection h with h; injection h with h; exact h.symm), hb, fun h => by
        rw [getD_set hls, if_neg (by omega)] at h
        obtain ⟨v, hv1, hv2⟩ := hA19 h
        exact ⟨v, by simpa using hv1, hv2⟩, fun h => by
        rw [getD_set hls, if_neg (by omega)] at h
        obtain ⟨v, hv1, hv2⟩ := hA20 h
        exact ⟨v, by simpa using hv1, hv2⟩⟩
    ·
      refine wpOp_step (o := { dst := some 40, op := Op.fieldAddr 26 (Operand.tmp 3) 4, type := 0, pos := "law.go:58", after := #[], guard := none }) rfl ?_
      intro K hK
      have q3_ : a.tmps[3]? = some (.pointer (some ⟨vb, 0, none⟩)) := (hS.keep 3 (of_decide_eq_true (by kernel_rfl))).trans h3_
      go_simp
      exact hK _ _ ⟨hS.put hn 7 40 _ rfl (by rw [hsz0]; omega) (fun u h => by injection h with h; injection h with h; exact h.symm), hb, fun h => by
        rw [getD_set hls, if_neg (by omega)] at h
        obtain ⟨v, hv1, hv2⟩ := hA19 h
        exact ⟨v, by simpa using hv1, hv2⟩, fun h => by
        rw [getD_set hls, if_neg (by omega)] at h
        obtain ⟨v, hv1, hv2⟩ := hA20 h
        exact ⟨v, by simpa using hv1, hv2⟩⟩
    ·
      refine wpOp_step (o := { dst := some 41, op := Op.load 24 (Operand.tmp 40), type := 24, pos := "law.go:58", after := #[{ on := 7, ground := Ground.data }], guard := none }) rfl ?_
      intro K hK
      have q40_ : a.tmps[40]? = some (.pointer (some ⟨vb, 4, none⟩)) := hS.val 7 40 _ (hd 7 (of_decide_eq_true (by kernel_rfl))) rfl rfl
      have m0 := (hx.next hb).cell 0 _ rfl
      have m1 := (hx.next hb).cell 1 _ rfl
      have m2 := (hx.next hb).cell 2 _ rfl
      have m3 := (hx.next hb).cell 3 _ rfl
      have m4 := (hx.next hb).cell 4 _ rfl
      go_simp
      exact hK _ _ ⟨hS.put hn 8 41 _ rfl (by rw [hsz0]; omega) (fun u h => by injection h with h; injection h with h; exact h.symm), hb, fun h => by
        rw [getD_set hls, if_neg (by omega)] at h
        obtain ⟨v, hv1, hv2⟩ := hA19 h
        exact ⟨v, by simpa using hv1, hv2⟩, fun h => by
        rw [getD_set hls, if_neg (by omega)] at h
        obtain ⟨v, hv1, hv2⟩ := hA20 h
        exact ⟨v, by simpa using hv1, hv2⟩⟩
    ·
      refine wpOp_step (o := { dst := some 42, op := Op.move (Operand.tmp 6), type := 3, pos := "law.go:58", after := #[], guard := none }) rfl ?_
      intro K hK
      have q6_ : a.tmps[6]? = some (.int .i64 ii) := (hS.keep 6 (of_decide_eq_true (by kernel_rfl))).trans h6_
      go_simp
      exact hK _ _ ⟨hS.put hn 9 42 _ rfl (by rw [hsz0]; omega) (fun u h => by injection h with h; injection h with h; exact h.symm), hb, fun h => by
        rw [getD_set hls, if_neg (by omega)] at h
        obtain ⟨v, hv1, hv2⟩ := hA19 h
        exact ⟨v, by simpa using hv1, hv2⟩, fun h => by
        rw [getD_set hls, if_neg (by omega)] at h
        obtain ⟨v, hv1, hv2⟩ := hA20 h
        exact ⟨v, by simpa using hv1, hv2⟩⟩
    ·
      refine wpOp_step (o := { dst := some 43, op := Op.indexAddr 24 (Operand.tmp 41) (Operand.tmp 42), type := 0, pos := "law.go:58", after := #[{ on := 8, ground := Ground.data }, { on := 9, ground := Ground.data }], guard := none }) rfl ?_
      intro K hK
      have q41_ : a.tmps[41]? = some (.slice (some ⟨pb, po, none⟩) n3 c3) := hS.val 8 41 _ (hd 8 (of_decide_eq_true (by kernel_rfl))) rfl rfl
      have q42_ : a.tmps[42]? = some (.int .i64 ii) := hS.val 9 42 _ (hd 9 (of_decide_eq_true (by kernel_rfl))) rfl rfl
      go_simp
      exact hK _ _ ⟨hS.put hn 10 43 _ rfl (by rw [hsz0]; omega) (fun u h => by injection h with h; injection h with h; exact h.symm), hb, fun h => by
        rw [getD_set hls, if_neg (by omega)] at h
        obtain ⟨v, hv1, hv2⟩ := hA19 h
        exact ⟨v, by simpa using hv1, hv2⟩, fun h => by
        rw [getD_set hls, if_neg (by omega)] at h
        obtain ⟨v, hv1, hv2⟩ := hA20 h
        exact ⟨v, by simpa using hv1, hv2⟩⟩
    ·
      refine wpOp_step (o := { dst := some 44, op := Op.fieldAddr 41 (Operand.tmp 43) 1, type := 0, pos := "law.go:58", after := #[{ on := 10, ground := Ground.data }], guard := none }) rfl ?_
      intro K hK
      have q43_ : a.tmps[43]? = some (.pointer (some ⟨pb, po + ii * 3, none⟩)) := hS.val 10 43 _ (hd 10 (of_decide_eq_true (by kernel_rfl))) rfl rfl
      go_simp
      exact hK _ _ ⟨hS.put hn 11 44 _ rfl (by rw [hsz0]; omega) (fun u h => by injection h with h; injection h with h; exact h.symm), hb, fun h => by
        rw [getD_set hls, if_neg (by omega)] at h
        obtain ⟨v, hv1, hv2⟩ := hA19 h
        exact ⟨v, by simpa using hv1, hv2⟩, fun h => by
        rw [getD_set hls, if_neg (by omega)] at h
        obtain ⟨v, hv1, hv2⟩ := hA20 h
        exact ⟨v, by simpa using hv1, hv2⟩⟩
    ·
      refine wpOp_step (o := { dst := some 45, op := Op.load 3 (Operand.tmp 44), type := 3, pos := "law.go:58", after := #[{ on := 11, ground := Ground.data }], guard := none }) rfl ?_
      intro K hK
      have q44_ : a.tmps[44]? = some (.pointer (some ⟨pb, po + ii * 3 + 1, none⟩)) := hS.val 11 44 _ (hd 11 (of_decide_eq_true (by kernel_rfl))) rfl rfl
      have q1 := (hb.cell (p := ⟨pb, po + ii * 3 + 1, none⟩) hpl).trans hp1
      go_simp
      exact hK _ _ ⟨hS.put hn 12 45 _ rfl (by rw [hsz0]; omega) (fun u h => by injection h with h; injection h with h; exact h.symm), hb, fun h => by
        rw [getD_set hls, if_neg (by omega)] at h
        obtain ⟨v, hv1, hv2⟩ := hA19 h
        exact ⟨v, by simpa using hv1, hv2⟩, fun h => by
        rw [getD_set hls, if_neg (by omega)] at h
        obtain ⟨v, hv1, hv2⟩ := hA20 h
        exact ⟨v, by simpa using hv1, hv2⟩⟩
    ·
      refine wpOp_step (o := { dst := some 46, op := Op.fieldAddr 26 (Operand.tmp 3) 4, type := 0, pos := "law.go:58", after := #[], guard := none }) rfl ?_
      intro K hK
      have q3_ : a.tmps[3]? = some (.pointer (some ⟨vb, 0, none⟩)) := (hS.keep 3 (of_decide_eq_true (by kernel_rfl))).trans h3_
      go_simp
      exact hK _ _ ⟨hS.put hn 13 46 _ rfl (by rw [hsz0]; omega) (fun u h => by injection h with h; injection h with h; exact h.symm), hb, fun h => by
        rw [getD_set hls, if_neg (by omega)] at h
        obtain ⟨v, hv1, hv2⟩ := hA19 h
        exact ⟨v, by simpa using hv1, hv2⟩, fun h => by
        rw [getD_set hls, if_neg (by omega)] at h
        obtain ⟨v, hv1, hv2⟩ := hA20 h
        exact ⟨v, by simpa using hv1, hv2⟩⟩
    ·
      refine wpOp_step (o := { dst := some 47, op := Op.load 24 (Operand.tmp 46), type := 24, pos := "law.go:58", after := #[{ on := 13, ground := Ground.data }], guard := none }) rfl ?_
      intro K hK
      have q46_ : a.tmps[46]? = some (.pointer (some ⟨vb, 4, none⟩)) := hS.val 13 46 _ (hd 13 (of_decide_eq_true (by kernel_rfl))) rfl rfl
      have m0 := (hx.next hb).cell 0 _ rfl
      have m1 := (hx.next hb).cell 1 _ rfl
      have m2 := (hx.next hb).cell 2 _ rfl
      have m3 := (hx.next hb).cell 3 _ rfl
      have m4 := (hx.next hb).cell 4 _ rfl
      go_simp
      exact hK _ _ ⟨hS.put hn 14 47 _ rfl (by rw [hsz0]; omega) (fun u h => by injection h with h; injection h with h; exact h.symm), hb, fun h => by
        rw [getD_set hls, if_neg (by omega)] at h
        obtain ⟨v, hv1, hv2⟩ := hA19 h
        exact ⟨v, by simpa using hv1, hv2⟩, fun h => by
        rw [getD_set hls, if_neg (by omega)] at h
        obtain ⟨v, hv1, hv2⟩ := hA20 h
        exact ⟨v, by simpa using hv1, hv2⟩⟩
    ·
      refine wpOp_step (o := { dst := some 48, op := Op.move (Operand.tmp 6), type := 3, pos := "law.go:58", after := #[], guard := none }) rfl ?_
      intro K hK
      have q6_ : a.tmps[6]? = some (.int .i64 ii) := (hS.keep 6 (of_decide_eq_true (by kernel_rfl))).trans h6_
      go_simp
      exact hK _ _ ⟨hS.put hn 15 48 _ rfl (by rw [hsz0]; omega) (fun u h => by injection h with h; injection h with h; exact h.symm), hb, fun h => by
        rw [getD_set hls, if_neg (by omega)] at h
        obtain ⟨v, hv1, hv2⟩ := hA19 h
        exact ⟨v, by simpa using hv1, hv2⟩, fun h => by
        rw [getD_set hls, if_neg (by omega)] at h
        obtain ⟨v, hv1, hv2⟩ := hA20 h
        exact ⟨v, by simpa using hv1, hv2⟩⟩
    ·
      refine wpOp_step (o := { dst := some 49, op := Op.indexAddr 24 (Operand.tmp 47) (Operand.tmp 48), type := 0, pos := "law.go:58", after := #[{ on := 14, ground := Ground.data }, { on := 15, ground := Ground.data }], guard := none }) rfl ?_
      intro K hK
      have q47_ : a.tmps[47]? = some (.slice (some ⟨pb, po, none⟩) n3 c3) := hS.val 14 47 _ (hd 14 (of_decide_eq_true (by kernel_rfl))) rfl rfl
      have q48_ : a.tmps[48]? = some (.int .i64 ii) := hS.val 15 48 _ (hd 15 (of_decide_eq_true (by kernel_rfl))) rfl rfl
      go_simp
      exact hK _ _ ⟨hS.put hn 16 49 _ rfl (by rw [hsz0]; omega) (fun u h => by injection h with h; injection h with h; exact h.symm), hb, fun h => by
        rw [getD_set hls, if_neg (by omega)] at h
        obtain ⟨v, hv1, hv2⟩ := hA19 h
        exact ⟨v, by simpa using hv1, hv2⟩, fun h => by
        rw [getD_set hls, if_neg (by omega)] at h
        obtain ⟨v, hv1, hv2⟩ := hA20 h
        exact ⟨v, by simpa using hv1, hv2⟩⟩
    ·
      refine wpOp_step (o := { dst := some 50, op := Op.fieldAddr 41 (Operand.tmp 49) 2, type := 0, pos := "law.go:58", after := #[{ on := 16, ground := Ground.data }], guard := none }) rfl ?_
      intro K hK
      have q49_ : a.tmps[49]? = some (.pointer (some ⟨pb, po + ii * 3, none⟩)) := hS.val 16 49 _ (hd 16 (of_decide_eq_true (by kernel_rfl))) rfl rfl
      go_simp
      exact hK _ _ ⟨hS.put hn 17 50 _ rfl (by rw [hsz0]; omega) (fun u h => by injection h with h; injection h with h; exact h.symm), hb, fun h => by
        rw [getD_set hls, if_neg (by omega)] at h
        obtain ⟨v, hv1, hv2⟩ := hA19 h
        exact ⟨v, by simpa using hv1, hv2⟩, fun h => by
        rw [getD_set hls, if_neg (by omega)] at h
        obtain ⟨v, hv1, hv2⟩ := hA20 h
        exact ⟨v, by simpa using hv1, hv2⟩⟩
    ·
      refine wpOp_step (o := { dst := some 51, op := Op.load 3 (Operand.tmp 50), type := 3, pos := "law.go:58", after := #[{ on := 17, ground := Ground.data }], guard := none }) rfl ?_
      intro K hK
      have q50_ : a.tmps[50]? = some (.pointer (some ⟨pb, po + ii * 3 + 2, none⟩)) := hS.val 17 50 _ (hd 17 (of_decide_eq_true (by kernel_rfl))) rfl rfl
      have q2 := (hb.cell (p := ⟨pb, po + ii * 3 + 2, none⟩) hpl).trans hp2
      go_simp
      exact hK _ _ ⟨hS.put hn 18 51 _ rfl (by rw [hsz0]; omega) (fun u h => by injection h with h; injection h with h; exact h.symm), hb, fun h => by
        rw [getD_set hls, if_neg (by omega)] at h
        obtain ⟨v, hv1, hv2⟩ := hA19 h
        exact ⟨v, by simpa using hv1, hv2⟩, fun h => by
        rw [getD_set hls, if_neg (by omega)] at h
        obtain ⟨v, hv1, hv2⟩ := hA20 h
        exact ⟨v, by simpa using hv1, hv2⟩⟩
    ·
      refine wpOp_step (o := { dst := some 52, op := Op.call { callee := Callee.value (Operand.func 17), args := #[Operand.tmp 33, Operand.tmp 39, Operand.tmp 45, Operand.tmp 51], argTypes := #[26, 3, 3, 3] }, type := 23, pos := "law.go:58", after := #[{ on := 0, ground := Ground.data }, { on := 6, ground := Ground.data }, { on := 12, ground := Ground.data }, { on := 18, ground := Ground.data }], guard := none }) rfl ?_
      intro K hK
      have q33_ : a.tmps[33]? = some (.agg #[.slice a1 n1 c1, .int .i64 gap, .int .i64 rad, .slice a2 n2 c2, .slice (some ⟨pb, po, none⟩) n3 c3]) := hS.val 0 33 _ (hd 0 (of_decide_eq_true (by kernel_rfl))) rfl rfl
      have q39_ : a.tmps[39]? = some (.int .i64 px) := hS.val 6 39 _ (hd 6 (of_decide_eq_true (by kernel_rfl))) rfl rfl
      have q45_ : a.tmps[45]? = some (.int .i64 py) := hS.val 12 45 _ (hd 12 (of_decide_eq_true (by kernel_rfl))) rfl rfl
      have q51_ : a.tmps[51]? = some (.int .i64 pr) := hS.val 18 51 _ (hd 18 (of_decide_eq_true (by kernel_rfl))) rfl rfl
      have hc := hc19 w hb
      go_simp
      go_at_call 17
      refine hc.mono ?_
      rintro e w' ⟨v, rfl, hrow, hb2⟩
      have hs2 : 52 < a.tmps.size := by rw [hsz.out]; omega
      exact hK _ _ ⟨hS.put hn 19 52 _ rfl (by rw [hsz0]; omega) (fun u h => by cases h), hb.trans (hb2.mono hb.size), fun h => ⟨v, by simp [hs2], hrow⟩, fun h => by
        rw [getD_set hls, if_neg (by omega)] at h
        obtain ⟨v, hv1, hv2⟩ := hA20 h
        exact ⟨v, by simpa using hv1, hv2.next hb2⟩⟩
    ·
      refine wpOp_step (o := { dst := some 7, op := Op.assign (Operand.tmp 52), type := 23, pos := "law.go:58", after := #[{ on := 19, ground := Ground.data }, { on := 19, ground := Ground.chain }, { on := 0, ground := Ground.phase }, { on := 1, ground := Ground.phase }, { on := 2, ground := Ground.phase }, { on := 3, ground := Ground.phase }, { on := 4, ground := Ground.phase }, { on := 5, ground := Ground.phase }, { on := 6, ground := Ground.phase }, { on := 7, ground := Ground.phase }, { on := 8, ground := Ground.phase }, { on := 9, ground := Ground.phase }, { on := 10, ground := Ground.phase }, { on := 11, ground := Ground.phase }, { on := 12, ground := Ground.phase }, { on := 13, ground := Ground.phase }, { on := 14, ground := Ground.phase }, { on := 15, ground := Ground.phase }, { on := 16, ground := Ground.phase }, { on := 17, ground := Ground.phase }, { on := 18, ground := Ground.phase }, { on := 19, ground := Ground.phase }], guard := none }) rfl ?_
      intro K hK
      obtain ⟨v, hv_, hp_⟩ := hA19 (hd 19 (of_decide_eq_true (by kernel_rfl)))
      have hs2 : 7 < a.tmps.size := by rw [hsz.out]; omega
      go_simp
      exact hK _ _ ⟨hS.put hn 20 7 _ rfl (by rw [hsz0]; omega) (fun u h => by cases h), hb, fun h => by
        rw [getD_set hls, if_neg (by omega)] at h
        obtain ⟨v, hv1, hv2⟩ := hA19 h
        exact ⟨v, by simpa using hv1, hv2⟩, fun h => ⟨v, by simp [hs2], hp_⟩⟩
  · intro listed a w hall ⟨hS, hb, hA19, hA20⟩
    obtain ⟨v19, hv19, hi19⟩ := hA19 (hall 19 (by decide))
    obtain ⟨v20, hv20, hi20⟩ := hA20 (hall 20 (by decide))
    have hf := hS.frame [(33, .agg #[.slice a1 n1 c1, .int .i64 gap, .int .i64 rad, .slice a2 n2 c2, .slice (some ⟨pb, po, none⟩) n3 c3]), (34, .pointer (some ⟨vb, 4, none⟩)), (35, .slice (some ⟨pb, po, none⟩) n3 c3), (36, .int .i64 ii), (37, .pointer (some ⟨pb, po + ii * 3, none⟩)), (38, .pointer (some ⟨pb, po + ii * 3, none⟩)), (39, .int .i64 px), (40, .pointer (some ⟨vb, 4, none⟩)), (41, .slice (some ⟨pb, po, none⟩) n3 c3), (42, .int .i64 ii), (43, .pointer (some ⟨pb, po + ii * 3, none⟩)), (44, .pointer (some ⟨pb, po + ii * 3 + 1, none⟩)), (45, .int .i64 py), (46, .pointer (some ⟨vb, 4, none⟩)), (47, .slice (some ⟨pb, po, none⟩) n3 c3), (48, .int .i64 ii), (49, .pointer (some ⟨pb, po + ii * 3, none⟩)), (50, .pointer (some ⟨pb, po + ii * 3 + 2, none⟩)), (51, .int .i64 pr), (52, v19), (7, v20)] rfl (of_decide_eq_true (by kernel_rfl)) (by
      simp only [List.map_cons, List.map_nil, List.all_cons, List.all_nil, hsz0]; rfl) (by
      intro p hp
      simp only [List.mem_cons, List.not_mem_nil, or_false] at hp
      rcases hp with rfl | rfl | rfl | rfl | rfl | rfl | rfl | rfl | rfl | rfl | rfl | rfl | rfl | rfl | rfl | rfl | rfl | rfl | rfl | rfl | rfl
      · exact hS.val 0 33 _ (hall 0 (by decide)) rfl rfl
      · exact hS.val 1 34 _ (hall 1 (by decide)) rfl rfl
      · exact hS.val 2 35 _ (hall 2 (by decide)) rfl rfl
      · exact hS.val 3 36 _ (hall 3 (by decide)) rfl rfl
      · exact hS.val 4 37 _ (hall 4 (by decide)) rfl rfl
      · exact hS.val 5 38 _ (hall 5 (by decide)) rfl rfl
      · exact hS.val 6 39 _ (hall 6 (by decide)) rfl rfl
      · exact hS.val 7 40 _ (hall 7 (by decide)) rfl rfl
      · exact hS.val 8 41 _ (hall 8 (by decide)) rfl rfl
      · exact hS.val 9 42 _ (hall 9 (by decide)) rfl rfl
      · exact hS.val 10 43 _ (hall 10 (by decide)) rfl rfl
      · exact hS.val 11 44 _ (hall 11 (by decide)) rfl rfl
      · exact hS.val 12 45 _ (hall 12 (by decide)) rfl rfl
      · exact hS.val 13 46 _ (hall 13 (by decide)) rfl rfl
      · exact hS.val 14 47 _ (hall 14 (by decide)) rfl rfl
      · exact hS.val 15 48 _ (hall 15 (by decide)) rfl rfl
      · exact hS.val 16 49 _ (hall 16 (by decide)) rfl rfl
      · exact hS.val 17 50 _ (hall 17 (by decide)) rfl rfl
      · exact hS.val 18 51 _ (hall 18 (by decide)) rfl rfl
      · exact hv19
      · exact hv20)
    rw [hf]
    exact hQ w v19 v20 hb hi20
set_option maxHeartbeats 16000000 in
theorem by_region {Q : Exit → Act → World → Prop} (a0 : Act) (W : World) (hsz0 : a0.tmps.size = 117) (vb ub uo db ii : Nat) (a1 a2 a3 : Option Addr) (n1 c1 n2 c2 n3 c3 un uc : Nat) (gap rad : Int) (x d : Bool) (BL : List Int) (hi : ii < un) (h40 : ii < 40) (hxd : (x == d) = false) (hdd : decide (0 < BL.length) = d)
    (hx : Box W vb 26 #[.slice a1 n1 c1, .int .i64 gap, .int .i64 rad, .slice a2 n2 c2, .slice a3 n3 c3]) (hul : ub < W.heap.size) (hu : W.cell? ⟨ub, uo + ii, none⟩ = some (.bool x)) (hdl : db < W.heap.size) (hdc : W.cell? ⟨db, ii, none⟩ = some (.bool d))
    (h3_ : a0.tmps[3]? = some (.pointer (some ⟨vb, 0, none⟩))) (h4_ : a0.tmps[4]? = some (.pointer (some ⟨db, 0, none⟩))) (h9_ : a0.tmps[9]? = some (.slice (some ⟨ub, uo, none⟩) un uc)) (h10_ : a0.tmps[10]? = some (.int .i64 ii))
    (hc11 : ∀ w, Below W.heap.size W w → Calls Try.prog 14 #[.agg #[.slice a1 n1 c1, .int .i64 gap, .int .i64 rad, .slice a2 n2 c2, .slice a3 n3 c3], .int .i64 ii] w fun e w' => ∃ v, e = .returned v ∧ Sl 1 intC w' v BL ∧ Below w.heap.size w w')
    (hQ : ∀ w' v11, Below W.heap.size W w' → Q .normal { tmps := putAll a0.tmps [(93, .slice (some ⟨ub, uo, none⟩) un uc), (94, .int .i64 ii), (95, .pointer (some ⟨ub, uo + ii, none⟩)), (96, .bool x), (97, .int .i64 ii), (98, .pointer (some ⟨db, ii, none⟩)), (99, .bool d), (100, .bool false), (101, .bool false), (102, .agg #[.slice a1 n1 c1, .int .i64 gap, .int .i64 rad, .slice a2 n2 c2, .slice a3 n3 c3]), (103, .int .i64 ii), (104, v11), (105, .int .i64 BL.length), (106, .bool d), (107, .int .i64 ii), (108, .pointer (some ⟨db, ii, none⟩)), (109, .bool d), (110, .bool false), (111, .bool false)], defers := a0.defers } w') :
    (Code.region 23 #[{ dst := some 93, op := Op.move (Operand.tmp 9), type := 29, pos := "law.go:71", after := #[], guard := none }, { dst := some 94, op := Op.move (Operand.tmp 10), type := 3, pos := "law.go:71", after := #[], guard := none }, { dst := some 95, op := Op.indexAddr 29 (Operand.tmp 93) (Operand.tmp 94), type := 0, pos := "law.go:71", after := #[{ on := 0, ground := Ground.data }, { on := 1, ground := Ground.data }], guard := none }, { dst := some 96, op := Op.load 4 (Operand.tmp 95), type := 4, pos := "law.go:71", after := #[{ on := 2, ground := Ground.data }], guard := none }, { dst := some 97, op := Op.move (Operand.tmp 10), type := 3, pos := "law.go:71", after := #[], guard := none }, { dst := some 98, op := Op.indexAddr 38 (Operand.tmp 4) (Operand.tmp 97), type := 0, pos := "law.go:71", after := #[{ on := 4, ground := Ground.data }], guard := none }, { dst := some 99, op := Op.load 4 (Operand.tmp 98), type := 4, pos := "law.go:71", after := #[{ on := 5, ground := Ground.data }], guard := none }, { dst := some 100, op := Op.binOp BinOp.eql 4 (Operand.tmp 96) (Operand.tmp 99) 4, type := 4, pos := "law.go:71", after := #[{ on := 3, ground := Ground.data }, { on := 6, ground := Ground.data }], guard := none }, { dst := some 101, op := Op.move (Operand.tmp 100), type := 4, pos := "law.go:71", after := #[{ on := 7, ground := Ground.data }], guard := none }, { dst := some 102, op := Op.load 26 (Operand.tmp 3), type := 26, pos := "law.go:71", after := #[{ on := 8, ground := Ground.guard }], guard := some (8, false) }, { dst := some 103, op := Op.move (Operand.tmp 10), type := 3, pos := "law.go:71", after := #[{ on := 8, ground := Ground.guard }], guard := some (8, false) }, { dst := some 104, op := Op.call { callee := Callee.value (Operand.func 14), args := #[Operand.tmp 102, Operand.tmp 103], argTypes := #[26, 3] }, type := 23, pos := "law.go:71", after := #[{ on := 9, ground := Ground.data }, { on := 10, ground := Ground.data }, { on := 8, ground := Ground.chain }, { on := 8, ground := Ground.guard }], guard := some (8, false) }, { dst := some 105, op := Op.call { callee := Callee.builtin Builtin.len, args := #[Operand.tmp 104], argTypes := #[23] }, type := 3, pos := "law.go:71", after := #[{ on := 11, ground := Ground.data }, { on := 8, ground := Ground.guard }], guard := some (8, false) }, { dst := some 106, op := Op.binOp BinOp.gtr 3 (Operand.tmp 105) (Operand.const (Value.int IntKind.i64 0)) 3, type := 4, pos := "law.go:71", after := #[{ on := 12, ground := Ground.data }, { on := 8, ground := Ground.guard }], guard := some (8, false) }, { dst := some 107, op := Op.move (Operand.tmp 10), type := 3, pos := "law.go:71", after := #[{ on := 8, ground := Ground.guard }], guard := some (8, false) }, { dst := some 108, op := Op.indexAddr 38 (Operand.tmp 4) (Operand.tmp 107), type := 0, pos := "law.go:71", after := #[{ on := 14, ground := Ground.data }, { on := 8, ground := Ground.guard }], guard := some (8, false) }, { dst := some 109, op := Op.load 4 (Operand.tmp 108), type := 4, pos := "law.go:71", after := #[{ on := 15, ground := Ground.data }, { on := 8, ground := Ground.guard }], guard := some (8, false) }, { dst := some 110, op := Op.binOp BinOp.neq 4 (Operand.tmp 106) (Operand.tmp 109) 4, type := 4, pos := "law.go:71", after := #[{ on := 13, ground := Ground.data }, { on := 16, ground := Ground.data }, { on := 8, ground := Ground.guard }], guard := some (8, false) }, { dst := some 111, op := Op.pick (Operand.tmp 101) (Operand.const (Value.bool true)) (Operand.tmp 110), type := 4, pos := "law.go:71", after := #[{ on := 8, ground := Ground.data }, { on := 17, ground := Ground.data }], guard := none }] true).wp Try.prog Q a0 W := by
  have hn : ([some 93, some 94, some 95, some 96, some 97, some 98, some 99, some 100, some 101, some 102, some 103, some 104, some 105, some 106, some 107, some 108, some 109, some 110, some 111] : List (Option Nat)).Pairwise (fun x y => x = none ∨ x ≠ y) := of_decide_eq_true (by kernel_rfl)
  have hiz : (ii : Int) < (un : Int) := by omega
  have hiz4 : (ii : Int) < 40 := by omega
  have hdn : (d != d) = false := by simp
  refine wp_region_inv mixed (fun listed a w => Slots a0 [some 93, some 94, some 95, some 96, some 97, some 98, some 99, some 100, some 101, some 102, some 103, some 104, some 105, some 106, some 107, some 108, some 109, some 110, some 111] [some (.slice (some ⟨ub, uo, none⟩) un uc), some (.int .i64 ii), some (.pointer (some ⟨ub, uo + ii, none⟩)), some (.bool x), some (.int .i64 ii), some (.pointer (some ⟨db, ii, none⟩)), some (.bool d), some (.bool false), some (.bool false), some (.agg #[.slice a1 n1 c1, .int .i64 gap, .int .i64 rad, .slice a2 n2 c2, .slice a3 n3 c3]), some (.int .i64 ii), none, some (.int .i64 BL.length), some (.bool d), some (.int .i64 ii), some (.pointer (some ⟨db, ii, none⟩)), some (.bool d), some (.bool false), some (.bool false)] listed a ∧ Below W.heap.size W w ∧ (listed.getD 11 false = true → ∃ v, a.tmps[104]? = some v ∧ Sl 1 intC w v BL)) (by kernel_rfl) ?_ ?_ ?_
  · exact ⟨Slots.start _ _ _ _, (Below.refl _ W).drew, fun h => (by rw [start_false] at h; cases h)⟩
  · intro listed a w i' hsl hilt hl hd hcl ⟨hS, hb, hA11⟩
    have hsz : Hid (a.tmps.size = 117) := hS.size.trans hsz0
    have hls : i' < listed.size := by rw [hsl]; exact hilt
    have hcase : i' = 0 ∨ i' = 1 ∨ i' = 2 ∨ i' = 3 ∨ i' = 4 ∨ i' = 5 ∨ i' = 6 ∨ i' = 7 ∨ i' = 8 ∨ i' = 9 ∨ i' = 10 ∨ i' = 11 ∨ i' = 12 ∨ i' = 13 ∨ i' = 14 ∨ i' = 15 ∨ i' = 16 ∨ i' = 17 ∨ i' = 18 := by
      have : i' < 19 := hilt
      omega
    rcases hcase with rfl | rfl | rfl | rfl | rfl | rfl | rfl | rfl | rfl | rfl | rfl | rfl | rfl | rfl | rfl | rfl | rfl | rfl | rfl
    ·
      refine wpOp_step (o := { dst := some 93, op := Op.move (Operand.tmp 9), type := 29, pos := "law.go:71", after := #[], guard := none }) rfl ?_
      intro K hK
      have q9_ : a.tmps[9]? = some (.slice (some ⟨ub, uo, none⟩) un uc) := (hS.keep 9 (of_decide_eq_true (by kernel_rfl))).trans h9_
      go_simp
      exact hK _ _ ⟨hS.put hn 0 93 _ rfl (by rw [hsz0]; omega) (fun u h => by injection h with h; injection h with h; exact h.symm), hb, fun h => by
        rw [getD_set hls, if_neg (by omega)] at h
        obtain ⟨v, hv1, hv2⟩ := hA11 h
        exact ⟨v, by simpa using hv1, hv2⟩⟩
    ·
      refine wpOp_step (o := { dst := some 94, op := Op.move (Operand.tmp 10), type := 3, pos := "law.go:71", after := #[], guard := none }) rfl ?_
      intro K hK
      have q10_ : a.tmps[10]? = some (.int .i64 ii) := (hS.keep 10 (of_decide_eq_true (by kernel_rfl))).trans h10_
      go_simp
      exact hK _ _ ⟨hS.put hn 1 94 _ rfl (by rw [hsz0]; omega) (fun u h => by injection h with h; injection h with h; exact h.symm), hb, fun h => by
        rw [getD_set hls, if_neg (by omega)] at h
        obtain ⟨v, hv1, hv2⟩ := hA11 h
        exact ⟨v, by simpa using hv1, hv2⟩⟩
    ·
      refine wpOp_step (o := { dst := some 95, op := Op.indexAddr 29 (Operand.tmp 93) (Operand.tmp 94), type := 0, pos := "law.go:71", after := #[{ on := 0, ground := Ground.data }, { on := 1, ground := Ground.data }], guard := none }) rfl ?_
      intro K hK
      have q93_ : a.tmps[93]? = some (.slice (some ⟨ub, uo, none⟩) un uc) := hS.val 0 93 _ (hd 0 (of_decide_eq_true (by kernel_rfl))) rfl rfl
      have q94_ : a.tmps[94]? = some (.int .i64 ii) := hS.val 1 94 _ (hd 1 (of_decide_eq_true (by kernel_rfl))) rfl rfl
      go_simp
      exact hK _ _ ⟨hS.put hn 2 95 _ rfl (by rw [hsz0]; omega) (fun u h => by injection h with h; injection h with h; exact h.symm), hb, fun h => by
        rw [getD_set hls, if_neg (by omega)] at h
        obtain ⟨v, hv1, hv2⟩ := hA11 h
        exact ⟨v, by simpa using hv1, hv2⟩⟩
    ·
      refine wpOp_step (o := { dst := some 96, op := Op.load 4 (Operand.tmp 95), type := 4, pos := "law.go:71", after := #[{ on := 2, ground := Ground.data }], guard := none }) rfl ?_
      intro K hK
      have q95_ : a.tmps[95]? = some (.pointer (some ⟨ub, uo + ii, none⟩)) := hS.val 2 95 _ (hd 2 (of_decide_eq_true (by kernel_rfl))) rfl rfl
      have q0 := (hb.cell (p := ⟨ub, uo + ii, none⟩) hul).trans hu
      go_simp
      exact hK _ _ ⟨hS.put hn 3 96 _ rfl (by rw [hsz0]; omega) (fun u h => by injection h with h; injection h with h; exact h.symm), hb, fun h => by
        rw [getD_set hls, if_neg (by omega)] at h
        obtain ⟨v, hv1, hv2⟩ := hA11 h
        exact ⟨v, by simpa using hv1, hv2⟩⟩
    ·
      refine wpOp_step (o := { dst := some 97, op := Op.move (Operand.tmp 10), type := 3, pos := "law.go:71", after := #[], guard := none }) rfl ?_
      intro K hK
      have q10_ : a.tmps[10]? = some (.int .i64 ii) := (hS.keep 10 (of_decide_eq_true (by kernel_rfl))).trans h10_
      go_simp
      exact hK _ _ ⟨hS.put hn 4 97 _ rfl (by rw [hsz0]; omega) (fun u h => by injection h with h; injection h with h; exact h.symm), hb, fun h => by
        rw [getD_set hls, if_neg (by omega)] at h
        obtain ⟨v, hv1, hv2⟩ := hA11 h
        exact ⟨v, by simpa using hv1, hv2⟩⟩
    ·
      refine wpOp_step (o := { dst := some 98, op := Op.indexAddr 38 (Operand.tmp 4) (Operand.tmp 97), type := 0, pos := "law.go:71", after := #[{ on := 4, ground := Ground.data }], guard := none }) rfl ?_
      intro K hK
      have q4_ : a.tmps[4]? = some (.pointer (some ⟨db, 0, none⟩)) := (hS.keep 4 (of_decide_eq_true (by kernel_rfl))).trans h4_
      have q97_ : a.tmps[97]? = some (.int .i64 ii) := hS.val 4 97 _ (hd 4 (of_decide_eq_true (by kernel_rfl))) rfl rfl
      go_simp
      exact hK _ _ ⟨hS.put hn 5 98 _ rfl (by rw [hsz0]; omega) (fun u h => by injection h with h; injection h with h; exact h.symm), hb, fun h => by
        rw [getD_set hls, if_neg (by omega)] at h
        obtain ⟨v, hv1, hv2⟩ := hA11 h
        exact ⟨v, by simpa using hv1, hv2⟩⟩
    ·
      refine wpOp_step (o := { dst := some 99, op := Op.load 4 (Operand.tmp 98), type := 4, pos := "law.go:71", after := #[{ on := 5, ground := Ground.data }], guard := none }) rfl ?_
      intro K hK
      have q98_ : a.tmps[98]? = some (.pointer (some ⟨db, ii, none⟩)) := hS.val 5 98 _ (hd 5 (of_decide_eq_true (by kernel_rfl))) rfl rfl
      have q1 := (hb.cell (p := ⟨db, ii, none⟩) hdl).trans hdc
      go_simp
      exact hK _ _ ⟨hS.put hn 6 99 _ rfl (by rw [hsz0]; omega) (fun u h => by injection h with h; injection h with h; exact h.symm), hb, fun h => by
        rw [getD_set hls, if_neg (by omega)] at h
        obtain ⟨v, hv1, hv2⟩ := hA11 h
        exact ⟨v, by simpa using hv1, hv2⟩⟩
    ·
      refine wpOp_step (o := { dst := some 100, op := Op.binOp BinOp.eql 4 (Operand.tmp 96) (Operand.tmp 99) 4, type := 4, pos := "law.go:71", after := #[{ on := 3, ground := Ground.data }, { on := 6, ground := Ground.data }], guard := none }) rfl ?_
      intro K hK
      have q96_ : a.tmps[96]? = some (.bool x) := hS.val 3 96 _ (hd 3 (of_decide_eq_true (by kernel_rfl))) rfl rfl
      have q99_ : a.tmps[99]? = some (.bool d) := hS.val 6 99 _ (hd 6 (of_decide_eq_true (by kernel_rfl))) rfl rfl
      go_simp
      exact hK _ _ ⟨hS.put hn 7 100 _ rfl (by rw [hsz0]; omega) (fun u h => by injection h with h; injection h with h; exact h.symm), hb, fun h => by
        rw [getD_set hls, if_neg (by omega)] at h
        obtain ⟨v, hv1, hv2⟩ := hA11 h
        exact ⟨v, by simpa using hv1, hv2⟩⟩
    ·
      refine wpOp_step (o := { dst := some 101, op := Op.move (Operand.tmp 100), type := 4, pos := "law.go:71", after := #[{ on := 7, ground := Ground.data }], guard := none }) rfl ?_
      intro K hK
      have q100_ : a.tmps[100]? = some (.bool false) := hS.val 7 100 _ (hd 7 (of_decide_eq_true (by kernel_rfl))) rfl rfl
      go_simp
      exact hK _ _ ⟨hS.put hn 8 101 _ rfl (by rw [hsz0]; omega) (fun u h => by injection h with h; injection h with h; exact h.symm), hb, fun h => by
        rw [getD_set hls, if_neg (by omega)] at h
        obtain ⟨v, hv1, hv2⟩ := hA11 h
        exact ⟨v, by simpa using hv1, hv2⟩⟩
    ·
      refine wpOp_step (o := { dst := some 102, op := Op.load 26 (Operand.tmp 3), type := 26, pos := "law.go:71", after := #[{ on := 8, ground := Ground.guard }], guard := some (8, false) }) rfl ?_
      intro K hK
      have q101_ : a.tmps[101]? = some (.bool false) := hS.val 8 101 _ (hd 8 (of_decide_eq_true (by kernel_rfl))) rfl rfl
      have q3_ : a.tmps[3]? = some (.pointer (some ⟨vb, 0, none⟩)) := (hS.keep 3 (of_decide_eq_true (by kernel_rfl))).trans h3_
      rw [if_pos (wanted_guard (j := 8) (d := 101) (b := false) rfl rfl q101_)]
      have m0 := (hx.next hb).cell 0 _ rfl
      have m1 := (hx.next hb).cell 1 _ rfl
      have m2 := (hx.next hb).cell 2 _ rfl
      have m3 := (hx.next hb).cell 3 _ rfl
      have m4 := (hx.next hb).cell 4 _ rfl
      go_simp
      exact hK _ _ ⟨hS.put hn 9 102 _ rfl (by rw [hsz0]; omega) (fun u h => by injection h with h; injection h with h; exact h.symm), hb, fun h => by
        rw [getD_set hls, if_neg (by omega)] at h
        obtain ⟨v, hv1, hv2⟩ := hA11 h
        exact ⟨v, by simpa using hv1, hv2⟩⟩
    ·
      refine wpOp_step (o := { dst := some 103, op := Op.move (Operand.tmp 10), type := 3, pos := "law.go:71", after := #[{ on := 8, ground := Ground.guard }], guard := some (8, false) }) rfl ?_
      intro K hK
      have q101_ : a.tmps[101]? = some (.bool false) := hS.val 8 101 _ (hd 8 (of_decide_eq_true (by kernel_rfl))) rfl rfl
      have q10_ : a.tmps[10]? = some (.int .i64 ii) := (hS.keep 10 (of_decide_eq_true (by kernel_rfl))).trans h10_
      rw [if_pos (wanted_guard (j := 8) (d := 101) (b := false) rfl rfl q101_)]
      go_simp
      exact hK _ _ ⟨hS.put hn 10 103 _ rfl (by rw [hsz0]; omega) (fun u h => by injection h with h; injection h with h; exact h.symm), hb, fun h => by
        rw [getD_set hls, if_neg (by omega)] at h
        obtain ⟨v, hv1, hv2⟩ := hA11 h
        exact ⟨v, by simpa using hv1, hv2⟩⟩
    ·
      refine wpOp_step (o := { dst := some 104, op := Op.call { callee := Callee.value (Operand.func 14), args := #[Operand.tmp 102, Operand.tmp 103], argTypes := #[26, 3] }, type := 23, pos := "law.go:71", after := #[{ on := 9, ground := Ground.data }, { on := 10, ground := Ground.data }, { on := 8, ground := Ground.chain }, { on := 8, ground := Ground.guard }], guard := some (8, false) }) rfl ?_
      intro K hK
      have q101_ : a.tmps[101]? = some (.bool false) := hS.val 8 101 _ (hd 8 (of_decide_eq_true (by kernel_rfl))) rfl rfl
      have q102_ : a.tmps[102]? = some (.agg #[.slice a1 n1 c1, .int .i64 gap, .int .i64 rad, .slice a2 n2 c2, .slice a3 n3 c3]) := hS.val 9 102 _ (hd 9 (of_decide_eq_true (by kernel_rfl))) rfl rfl
      have q103_ : a.tmps[103]? = some (.int .i64 ii) := hS.val 10 103 _ (hd 10 (of_decide_eq_true (by kernel_rfl))) rfl rfl
      rw [if_pos (wanted_guard (j := 8) (d := 101) (b := false) rfl rfl q101_)]
      have hc := hc11 w hb
      go_simp
      go_at_call 14
      refine hc.mono ?_
      rintro e w' ⟨v, rfl, hrow, hb2⟩
      have hs2 : 104 < a.tmps.size := by rw [hsz.out]; omega
      exact hK _ _ ⟨hS.put hn 11 104 _ rfl (by rw [hsz0]; omega) (fun u h => by cases h), hb.trans (hb2.mono hb.size), fun h => ⟨v, by simp [hs2], hrow⟩⟩
    ·
      refine wpOp_step (o := { dst := some 105, op := Op.call { callee := Callee.builtin Builtin.len, args := #[Operand.tmp 104], argTypes := #[23] }, type := 3, pos := "law.go:71", after := #[{ on := 11, ground := Ground.data }, { on := 8, ground := Ground.guard }], guard := some (8, false) }) rfl ?_
      intro K hK
      have q101_ : a.tmps[101]? = some (.bool false) := hS.val 8 101 _ (hd 8 (of_decide_eq_true (by kernel_rfl))) rfl rfl
      rw [if_pos (wanted_guard (j := 8) (d := 101) (b := false) rfl rfl q101_)]
      obtain ⟨vr, hvr, hpr⟩ := hA11 (hd 11 (of_decide_eq_true (by kernel_rfl)))
      obtain ⟨ra, rc, rfl, _⟩ := Com.Sl.form hpr
      go_simp
      exact hK _ _ ⟨hS.put hn 12 105 _ rfl (by rw [hsz0]; omega) (fun u h => by injection h with h; injection h with h; exact h.symm), hb, fun h => by
        rw [getD_set hls, if_neg (by omega)] at h
        obtain ⟨v, hv1, hv2⟩ := hA11 h
        exact ⟨v, by simpa using hv1, hv2⟩⟩
    ·
      refine wpOp_step (o := { dst := some 106, op := Op.binOp BinOp.gtr 3 (Operand.tmp 105) (Operand.const (Value.int IntKind.i64 0)) 3, type := 4, pos := "law.go:71", after := #[{ on := 12, ground := Ground.data }, { on := 8, ground := Ground.guard }], guard := some (8, false) }) rfl ?_
      intro K hK
      have q101_ : a.tmps[101]? = some (.bool false) := hS.val 8 101 _ (hd 8 (of_decide_eq_true (by kernel_rfl))) rfl rfl
      have q105_ : a.tmps[105]? = some (.int .i64 BL.length) := hS.val 12 105 _ (hd 12 (of_decide_eq_true (by kernel_rfl))) rfl rfl
      rw [if_pos (wanted_guard (j := 8) (d := 101) (b := false) rfl rfl q101_)]
      go_simp
      exact hK _ _ ⟨hS.put hn 13 106 _ rfl (by rw [hsz0]; omega) (fun u h => by injection h with h; injection h with h; exact h.symm), hb, fun h => by
        rw [getD_set hls, if_neg (by omega)] at h
        obtain ⟨v, hv1, hv2⟩ := hA11 h
        exact ⟨v, by simpa using hv1, hv2⟩⟩
    ·
      refine wpOp_step (o := { dst := some 107, op := Op.move (Operand.tmp 10), type := 3, pos := "law.go:71", after := #[{ on := 8, ground := Ground.guard }], guard := some (8, false) }) rfl ?_
      intro K hK
      have q101_ : a.tmps[101]? = some (.bool false) := hS.val 8 101 _ (hd 8 (of_decide_eq_true (by kernel_rfl))) rfl rfl
      have q10_ : a.tmps[10]? = some (.int .i64 ii) := (hS.keep 10 (of_decide_eq_true (by kernel_rfl))).trans h10_
      rw [if_pos (wanted_guard (j := 8) (d := 101) (b := false) rfl rfl q101_)]
      go_simp
      exact hK _ _ ⟨hS.put hn 14 107 _ rfl (by rw [hsz0]; omega) (fun u h => by injection h with h; injection h with h; exact h.symm), hb, fun h => by
        rw [getD_set hls, if_neg (by omega)] at h
        obtain ⟨v, hv1, hv2⟩ := hA11 h
        exact ⟨v, by simpa using hv1, hv2⟩⟩
    ·
      refine wpOp_step (o := { dst := some 108, op := Op.indexAddr 38 (Operand.tmp 4) (Operand.tmp 107), type := 0, pos := "law.go:71", after := #[{ on := 14, ground := Ground.data }, { on := 8, ground := Ground.guard }], guard := some (8, false) }) rfl ?_
      intro K hK
      have q101_ : a.tmps[101]? = some (.bool false) := hS.val 8 101 _ (hd 8 (of_decide_eq_true (by kernel_rfl))) rfl rfl
      have q4_ : a.tmps[4]? = some (.pointer (some ⟨db, 0, none⟩)) := (hS.keep 4 (of_decide_eq_true (by kernel_rfl))).trans h4_
      have q107_ : a.tmps[107]? = some (.int .i64 ii) := hS.val 14 107 _ (hd 14 (of_decide_eq_true (by kernel_rfl))) rfl rfl
      rw [if_pos (wanted_guard (j := 8) (d := 101) (b := false) rfl rfl q101_)]
      go_simp
      exact hK _ _ ⟨hS.put hn 15 108 _ rfl (by rw [hsz0]; omega) (fun u h => by injection h with h; injection h with h; exact h.symm), hb, fun h => by
        rw [getD_set hls, if_neg (by omega)] at h
        obtain ⟨v, hv1, hv2⟩ := hA11 h
        exact ⟨v, by simpa using hv1, hv2⟩⟩
    ·
      refine wpOp_step (o := { dst := some 109, op := Op.load 4 (Operand.tmp 108), type := 4, pos := "law.go:71", after := #[{ on := 15, ground := Ground.data }, { on := 8, ground := Ground.guard }], guard := some (8, false) }) rfl ?_
      intro K hK
      have q101_ : a.tmps[101]? = some (.bool false) := hS.val 8 101 _ (hd 8 (of_decide_eq_true (by kernel_rfl))) rfl rfl
      have q108_ : a.tmps[108]? = some (.pointer (some ⟨db, ii, none⟩)) := hS.val 15 108 _ (hd 15 (of_decide_eq_true (by kernel_rfl))) rfl rfl
      rw [if_pos (wanted_guard (j := 8) (d := 101) (b := false) rfl rfl q101_)]
      have q1 := (hb.cell (p := ⟨db, ii, none⟩) hdl).trans hdc
      go_simp
      exact hK _ _ ⟨hS.put hn 16 109 _ rfl (by rw [hsz0]; omega) (fun u h => by injection h with h; injection h with h; exact h.symm), hb, fun h => by
        rw [getD_set hls, if_neg (by omega)] at h
        obtain ⟨v, hv1, hv2⟩ := hA11 h
        exact ⟨v, by simpa using hv1, hv2⟩⟩
    ·
      refine wpOp_step (o := { dst := some 110, op := Op.binOp BinOp.neq 4 (Operand.tmp 106) (Operand.tmp 109) 4, type := 4, pos := "law.go:71", after := #[{ on := 13, ground := Ground.data }, { on := 16, ground := Ground.data }, { on := 8, ground := Ground.guard }], guard := some (8, false) }) rfl ?_
      intro K hK
      have q101_ : a.tmps[101]? = some (.bool false) := hS.val 8 101 _ (hd 8 (of_decide_eq_true (by kernel_rfl))) rfl rfl
      have q106_ : a.tmps[106]? = some (.bool d) := hS.val 13 106 _ (hd 13 (of_decide_eq_true (by kernel_rfl))) rfl rfl
      have q109_ : a.tmps[109]? = some (.bool d) := hS.val 16 109 _ (hd 16 (of_decide_eq_true (by kernel_rfl))) rfl rfl
      rw [if_pos (wanted_guard (j := 8) (d := 101) (b := false) rfl rfl q101_)]
      go_simp
      exact hK _ _ ⟨hS.put hn 17 110 _ rfl (by rw [hsz0]; omega) (fun u h => by injection h with h; injection h with h; exact h.symm), hb, fun h => by
        rw [getD_set hls, if_neg (by omega)] at h
        obtain ⟨v, hv1, hv2⟩ := hA11 h
        exact ⟨v, by simpa using hv1, hv2⟩⟩
    ·
      refine wpOp_step (o := { dst := some 111, op := Op.pick (Operand.tmp 101) (Operand.const (Value.bool true)) (Operand.tmp 110), type := 4, pos := "law.go:71", after := #[{ on := 8, ground := Ground.data }, { on := 17, ground := Ground.data }], guard := none }) rfl ?_
      intro K hK
      have q101_ : a.tmps[101]? = some (.bool false) := hS.val 8 101 _ (hd 8 (of_decide_eq_true (by kernel_rfl))) rfl rfl
      have q110_ : a.tmps[110]? = some (.bool false) := hS.val 17 110 _ (hd 17 (of_decide_eq_true (by kernel_rfl))) rfl rfl
      go_simp
      exact hK _ _ ⟨hS.put hn 18 111 _ rfl (by rw [hsz0]; omega) (fun u h => by injection h with h; injection h with h; exact h.symm), hb, fun h => by
        rw [getD_set hls, if_neg (by omega)] at h
        obtain ⟨v, hv1, hv2⟩ := hA11 h
        exact ⟨v, by simpa using hv1, hv2⟩⟩
  · intro listed a w hall ⟨hS, hb, hA11⟩
    obtain ⟨v11, hv11, hi11⟩ := hA11 (hall 11 (by decide))
    have hf := hS.frame [(93, .slice (some ⟨ub, uo, none⟩) un uc), (94, .int .i64 ii), (95, .pointer (some ⟨ub, uo + ii, none⟩)), (96, .bool x), (97, .int .i64 ii), (98, .pointer (some ⟨db, ii, none⟩)), (99, .bool d), (100, .bool false), (101, .bool false), (102, .agg #[.slice a1 n1 c1, .int .i64 gap, .int .i64 rad, .slice a2 n2 c2, .slice a3 n3 c3]), (103, .int .i64 ii), (104, v11), (105, .int .i64 BL.length), (106, .bool d), (107, .int .i64 ii), (108, .pointer (some ⟨db, ii, none⟩)), (109, .bool d), (110, .bool false), (111, .bool false)] rfl (of_decide_eq_true (by kernel_rfl)) (by
      simp only [List.map_cons, List.map_nil, List.all_cons, List.all_nil, hsz0]; rfl) (by
      intro p hp
      simp only [List.mem_cons, List.not_mem_nil, or_false] at hp
      rcases hp with rfl | rfl | rfl | rfl | rfl | rfl | rfl | rfl | rfl | rfl | rfl | rfl | rfl | rfl | rfl | rfl | rfl | rfl | rfl
      · exact hS.val 0 93 _ (hall 0 (by decide)) rfl rfl
      · exact hS.val 1 94 _ (hall 1 (by decide)) rfl rfl
      · exact hS.val 2 95 _ (hall 2 (by decide)) rfl rfl
      · exact hS.val 3 96 _ (hall 3 (by decide)) rfl rfl
      · exact hS.val 4 97 _ (hall 4 (by decide)) rfl rfl
      · exact hS.val 5 98 _ (hall 5 (by decide)) rfl rfl
      · exact hS.val 6 99 _ (hall 6 (by decide)) rfl rfl
      · exact hS.val 7 100 _ (hall 7 (by decide)) rfl rfl
      · exact hS.val 8 101 _ (hall 8 (by decide)) rfl rfl
      · exact hS.val 9 102 _ (hall 9 (by decide)) rfl rfl
      · exact hS.val 10 103 _ (hall 10 (by decide)) rfl rfl
      · exact hv11
      · exact hS.val 12 105 _ (hall 12 (by decide)) rfl rfl
      · exact hS.val 13 106 _ (hall 13 (by decide)) rfl rfl
      · exact hS.val 14 107 _ (hall 14 (by decide)) rfl rfl
      · exact hS.val 15 108 _ (hall 15 (by decide)) rfl rfl
      · exact hS.val 16 109 _ (hall 16 (by decide)) rfl rfl
      · exact hS.val 17 110 _ (hall 17 (by decide)) rfl rfl
      · exact hS.val 18 111 _ (hall 18 (by decide)) rfl rfl)
    rw [hf]
    exact hQ w v11 hb
end Go.Proofs.Ytbmmjbklfheghaa.Kll
