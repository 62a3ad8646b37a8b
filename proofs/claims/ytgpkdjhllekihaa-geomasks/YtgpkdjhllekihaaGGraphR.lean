/- geom.Graph's step, which draws its order, by an invariant. -/
import Derived.Test.YtgpkdjhllekihaaGNear
import Derived.Test.YtgpkdjhllekihaaVInv
namespace Go.Proofs.Ytgpkdjhllekihaa.Geo
set_option linter.unusedVariables false
set_option maxRecDepth 100000
open Go.RowKit Go.Shelf
open Go.Proofs.Ytgpkdjhllekihaa.Ven (Seat Pole Ven VenAt venV seatV intC Box mayB mixed below_alloc RowF row_next row_slice Slots wp_region_inv getD_set start_false putAll Slots.start slot_of)

set_option maxHeartbeats 4000000 in
theorem graph_region {Q : Exit → Act → World → Prop} (a0 : Act) (W : World) (hsz0 : a0.tmps.size = 25) (G n k : Nat) (f : Nat → Value) (hk : k < n) (pb ab : Nat) (a1 a2 a3 : Option Addr) (n1 c1 n2 c2 n3 c3 : Nat) (gap rad : Int) (L : List Int)
    (h1 : a0.tmps[1]? = some (.pointer (some ⟨pb, 0, none⟩))) (h3 : a0.tmps[3]? = some (.slice (some ⟨G, 0, none⟩) n n)) (h4 : a0.tmps[4]? = some (.pointer (some ⟨ab, 0, none⟩)))
    (hx : Box W pb 26 #[.slice a1 n1 c1, .int .i64 gap, .int .i64 rad, .slice a2 n2 c2, .slice a3 n3 c3]) (hs : Box W ab 3 #[.int .i64 k]) (hR : RowF W G n f)
    (hcall : ∀ w, Below W.heap.size W w → Calls Try.prog 29 #[.agg #[.slice a1 n1 c1, .int .i64 gap, .int .i64 rad, .slice a2 n2 c2, .slice a3 n3 c3], .func (.func 32) #[] #[.pointer (some ⟨pb, 0, none⟩), .pointer (some ⟨ab, 0, none⟩)]] w fun e w' => ∃ v, e = .returned v ∧ Ints w.heap.size w' v L ∧ Below w.heap.size w w')
    (hQ : ∀ w' v, Below W.heap.size W w' → Ints W.heap.size w' v L → Q .normal { tmps := putAll a0.tmps [(17, .slice (some ⟨G, 0, none⟩) n n), (18, .int .i64 k), (19, .agg #[.slice a1 n1 c1, .int .i64 gap, .int .i64 rad, .slice a2 n2 c2, .slice a3 n3 c3]), (20, .func (.func 32) #[] #[.pointer (some ⟨pb, 0, none⟩), .pointer (some ⟨ab, 0, none⟩)]), (21, v), (22, .pointer (some ⟨G, k, none⟩))], defers := a0.defers } (w'.setCell ⟨G, k, none⟩ v)) :
    (Code.region 7 #[{ dst := some 17, op := Op.move (Operand.tmp 3), type := 35, pos := "geom.go:30", after := #[], guard := none }, { dst := some 18, op := Op.load 3 (Operand.tmp 4), type := 3, pos := "geom.go:30", after := #[], guard := none }, { dst := some 19, op := Op.load 26 (Operand.tmp 1), type := 26, pos := "geom.go:30", after := #[], guard := none }, { dst := some 20, op := Op.makeFunc (Fn.func 32) #[] #[Operand.tmp 1, Operand.tmp 4], type := 44, pos := "geom.go:30", after := #[], guard := none }, { dst := some 21, op := Op.call { callee := Callee.value (Operand.func 29), args := #[Operand.tmp 19, Operand.tmp 20], argTypes := #[26, 44] }, type := 23, pos := "geom.go:30", after := #[{ on := 2, ground := Ground.data }, { on := 3, ground := Ground.data }], guard := none }, { dst := some 22, op := Op.indexAddr 35 (Operand.tmp 17) (Operand.tmp 18), type := 0, pos := "geom.go:30", after := #[{ on := 0, ground := Ground.data }, { on := 1, ground := Ground.data }, { on := 0, ground := Ground.phase }, { on := 1, ground := Ground.phase }, { on := 2, ground := Ground.phase }, { on := 3, ground := Ground.phase }, { on := 4, ground := Ground.phase }], guard := none }, { dst := none, op := Op.store 23 (Operand.tmp 22) (Operand.tmp 21), type := 0, pos := "geom.go:30", after := #[{ on := 5, ground := Ground.data }, { on := 4, ground := Ground.data }, { on := 4, ground := Ground.chain }, { on := 0, ground := Ground.phase }, { on := 1, ground := Ground.phase }, { on := 2, ground := Ground.phase }, { on := 3, ground := Ground.phase }, { on := 4, ground := Ground.phase }], guard := none }] true).wp Try.prog Q a0 W := by
  have hn : ([some 17, some 18, some 19, some 20, some 21, some 22, none] : List (Option Nat)).Pairwise (fun x y => x = none ∨ x ≠ y) := of_decide_eq_true (by kernel_rfl)
  have hkz : (k : Int) < (n : Int) := by omega
  refine wp_region_inv mixed (fun listed a w => Slots a0 [some 17, some 18, some 19, some 20, some 21, some 22, none] [some (.slice (some ⟨G, 0, none⟩) n n), some (.int .i64 k), some (.agg #[.slice a1 n1 c1, .int .i64 gap, .int .i64 rad, .slice a2 n2 c2, .slice a3 n3 c3]), some (.func (.func 32) #[] #[.pointer (some ⟨pb, 0, none⟩), .pointer (some ⟨ab, 0, none⟩)]), none, some (.pointer (some ⟨G, k, none⟩)), none] listed a ∧ (listed.getD 6 false = false → Below W.heap.size W w) ∧ (listed.getD 4 false = true → ∃ v, a.tmps[21]? = some v ∧ (listed.getD 6 false = false → Ints W.heap.size w v L) ∧ (listed.getD 6 false = true → ∃ w1, Below W.heap.size W w1 ∧ Ints W.heap.size w1 v L ∧ w = w1.setCell ⟨G, k, none⟩ v))) (by kernel_rfl) ?_ ?_ ?_
  · exact ⟨Slots.start _ _ _ _, fun _ => (Below.refl _ W).drew, fun h => by rw [start_false] at h; cases h⟩
  · intro listed a w i' hsl hilt hl hd hcl ⟨hS, hB, hA⟩
    have hsz : Hid (a.tmps.size = 25) := hS.size.trans hsz0
    have hls : i' < listed.size := by rw [hsl]; exact hilt
    have hcase : i' = 0 ∨ i' = 1 ∨ i' = 2 ∨ i' = 3 ∨ i' = 4 ∨ i' = 5 ∨ i' = 6 := by
      have : i' < 7 := hilt
      omega
    have d6 : ∀ i, i < 6 → listed.getD i false = false → listed.getD 6 false = false := fun i hi hl => by
      cases h : listed.getD 6 false with
      | false => rfl
      | true =>
        have e5 := hcl 6 5 h (of_decide_eq_true (by kernel_rfl))
        have e4 := hcl 6 4 h (of_decide_eq_true (by kernel_rfl))
        have e0 := hcl 5 0 e5 (of_decide_eq_true (by kernel_rfl))
        have e1 := hcl 5 1 e5 (of_decide_eq_true (by kernel_rfl))
        have e2 := hcl 4 2 e4 (of_decide_eq_true (by kernel_rfl))
        have e3 := hcl 4 3 e4 (of_decide_eq_true (by kernel_rfl))
        have hc : i = 0 ∨ i = 1 ∨ i = 2 ∨ i = 3 ∨ i = 4 ∨ i = 5 := by omega
        rcases hc with rfl | rfl | rfl | rfl | rfl | rfl <;> simp_all
    rcases hcase with rfl | rfl | rfl | rfl | rfl | rfl | rfl
    ·
      refine wpOp_step (o := { dst := some 17, op := Op.move (Operand.tmp 3), type := 35, pos := "geom.go:30", after := #[], guard := none }) rfl ?_
      intro K hK
      have g6 := d6 0 (by omega) hl
      have hb := hB g6
      have q3 : a.tmps[3]? = some (.slice (some ⟨G, 0, none⟩) n n) := (hS.keep 3 (of_decide_eq_true (by kernel_rfl))).trans h3
      go_simp
      exact hK _ _ ⟨hS.put hn 0 17 _ rfl (by rw [hsz0]; omega) (fun u h => by injection h with h; injection h with h; exact h.symm), fun h => hb, fun h => by
        rw [getD_set hls, if_neg (by omega)] at h
        obtain ⟨v, hv1, hv2, hv3⟩ := hA h
        refine ⟨v, by simpa using hv1, fun _ => hv2 g6, fun h' => ?_⟩
        rw [getD_set hls, if_neg (by omega), g6] at h'; cases h'⟩
    ·
      refine wpOp_step (o := { dst := some 18, op := Op.load 3 (Operand.tmp 4), type := 3, pos := "geom.go:30", after := #[], guard := none }) rfl ?_
      intro K hK
      have g6 := d6 1 (by omega) hl
      have hb := hB g6
      have q4 : a.tmps[4]? = some (.pointer (some ⟨ab, 0, none⟩)) := (hS.keep 4 (of_decide_eq_true (by kernel_rfl))).trans h4
      have m0 := (hs.next hb).cell 0 _ rfl
      go_simp
      exact hK _ _ ⟨hS.put hn 1 18 _ rfl (by rw [hsz0]; omega) (fun u h => by injection h with h; injection h with h; exact h.symm), fun h => hb, fun h => by
        rw [getD_set hls, if_neg (by omega)] at h
        obtain ⟨v, hv1, hv2, hv3⟩ := hA h
        refine ⟨v, by simpa using hv1, fun _ => hv2 g6, fun h' => ?_⟩
        rw [getD_set hls, if_neg (by omega), g6] at h'; cases h'⟩
    ·
      refine wpOp_step (o := { dst := some 19, op := Op.load 26 (Operand.tmp 1), type := 26, pos := "geom.go:30", after := #[], guard := none }) rfl ?_
      intro K hK
      have g6 := d6 2 (by omega) hl
      have hb := hB g6
      have q1 : a.tmps[1]? = some (.pointer (some ⟨pb, 0, none⟩)) := (hS.keep 1 (of_decide_eq_true (by kernel_rfl))).trans h1
      have m0 := (hx.next hb).cell 0 _ rfl
      have m1 := (hx.next hb).cell 1 _ rfl
      have m2 := (hx.next hb).cell 2 _ rfl
      have m3 := (hx.next hb).cell 3 _ rfl
      have m4 := (hx.next hb).cell 4 _ rfl
      go_simp
      exact hK _ _ ⟨hS.put hn 2 19 _ rfl (by rw [hsz0]; omega) (fun u h => by injection h with h; injection h with h; exact h.symm), fun h => hb, fun h => by
        rw [getD_set hls, if_neg (by omega)] at h
        obtain ⟨v, hv1, hv2, hv3⟩ := hA h
        refine ⟨v, by simpa using hv1, fun _ => hv2 g6, fun h' => ?_⟩
        rw [getD_set hls, if_neg (by omega), g6] at h'; cases h'⟩
    ·
      refine wpOp_step (o := { dst := some 20, op := Op.makeFunc (Fn.func 32) #[] #[Operand.tmp 1, Operand.tmp 4], type := 44, pos := "geom.go:30", after := #[], guard := none }) rfl ?_
      intro K hK
      have g6 := d6 3 (by omega) hl
      have hb := hB g6
      have q1 : a.tmps[1]? = some (.pointer (some ⟨pb, 0, none⟩)) := (hS.keep 1 (of_decide_eq_true (by kernel_rfl))).trans h1
      have q4 : a.tmps[4]? = some (.pointer (some ⟨ab, 0, none⟩)) := (hS.keep 4 (of_decide_eq_true (by kernel_rfl))).trans h4
      go_simp
      exact hK _ _ ⟨hS.put hn 3 20 _ rfl (by rw [hsz0]; omega) (fun u h => by injection h with h; injection h with h; exact h.symm), fun h => hb, fun h => by
        rw [getD_set hls, if_neg (by omega)] at h
        obtain ⟨v, hv1, hv2, hv3⟩ := hA h
        refine ⟨v, by simpa using hv1, fun _ => hv2 g6, fun h' => ?_⟩
        rw [getD_set hls, if_neg (by omega), g6] at h'; cases h'⟩
    ·
      refine wpOp_step (o := { dst := some 21, op := Op.call { callee := Callee.value (Operand.func 29), args := #[Operand.tmp 19, Operand.tmp 20], argTypes := #[26, 44] }, type := 23, pos := "geom.go:30", after := #[{ on := 2, ground := Ground.data }, { on := 3, ground := Ground.data }], guard := none }) rfl ?_
      intro K hK
      have g6 := d6 4 (by omega) hl
      have hb := hB g6
      have q19 : a.tmps[19]? = some (.agg #[.slice a1 n1 c1, .int .i64 gap, .int .i64 rad, .slice a2 n2 c2, .slice a3 n3 c3]) := hS.val 2 19 _ (hd 2 (of_decide_eq_true (by kernel_rfl))) rfl rfl
      have q20 : a.tmps[20]? = some (.func (.func 32) #[] #[.pointer (some ⟨pb, 0, none⟩), .pointer (some ⟨ab, 0, none⟩)]) := hS.val 3 20 _ (hd 3 (of_decide_eq_true (by kernel_rfl))) rfl rfl
      have hc := hcall w hb
      go_simp
      go_at_call 29
      refine hc.mono ?_
      rintro e w' ⟨v, rfl, hrow, hb'⟩
      refine hK _ _ ⟨hS.put hn 4 21 _ rfl (by rw [hsz0]; omega) (fun u h => by cases h), fun h => hb.trans (hb'.mono hb.size), fun h => ⟨v, ?_, fun _ => row_base hrow hb.size, fun h' => ?_⟩⟩
      · have hs2 : 21 < a.tmps.size := by rw [hsz.out]; omega
        simp [hs2]
      · rw [getD_set hls, if_neg (by omega), g6] at h'; cases h'
    ·
      refine wpOp_step (o := { dst := some 22, op := Op.indexAddr 35 (Operand.tmp 17) (Operand.tmp 18), type := 0, pos := "geom.go:30", after := #[{ on := 0, ground := Ground.data }, { on := 1, ground := Ground.data }, { on := 0, ground := Ground.phase }, { on := 1, ground := Ground.phase }, { on := 2, ground := Ground.phase }, { on := 3, ground := Ground.phase }, { on := 4, ground := Ground.phase }], guard := none }) rfl ?_
      intro K hK
      have g6 := d6 5 (by omega) hl
      have hb := hB g6
      have q17 : a.tmps[17]? = some (.slice (some ⟨G, 0, none⟩) n n) := hS.val 0 17 _ (hd 0 (of_decide_eq_true (by kernel_rfl))) rfl rfl
      have q18 : a.tmps[18]? = some (.int .i64 k) := hS.val 1 18 _ (hd 1 (of_decide_eq_true (by kernel_rfl))) rfl rfl
      go_simp
      exact hK _ _ ⟨hS.put hn 5 22 _ rfl (by rw [hsz0]; omega) (fun u h => by injection h with h; injection h with h; exact h.symm), fun h => hb, fun h => by
        rw [getD_set hls, if_neg (by omega)] at h
        obtain ⟨v, hv1, hv2, hv3⟩ := hA h
        refine ⟨v, by simpa using hv1, fun _ => hv2 g6, fun h' => ?_⟩
        rw [getD_set hls, if_neg (by omega), g6] at h'; cases h'⟩
    ·
      refine wpOp_step (o := { dst := none, op := Op.store 23 (Operand.tmp 22) (Operand.tmp 21), type := 0, pos := "geom.go:30", after := #[{ on := 5, ground := Ground.data }, { on := 4, ground := Ground.data }, { on := 4, ground := Ground.chain }, { on := 0, ground := Ground.phase }, { on := 1, ground := Ground.phase }, { on := 2, ground := Ground.phase }, { on := 3, ground := Ground.phase }, { on := 4, ground := Ground.phase }], guard := none }) rfl ?_
      intro K hK
      have hb := hB hl
      obtain ⟨v, hv1, hv2, hv3⟩ := hA (hd 4 (of_decide_eq_true (by kernel_rfl)))
      have q22 : a.tmps[22]? = some (.pointer (some ⟨G, k, none⟩)) := hS.val 5 22 _ (hd 5 (of_decide_eq_true (by kernel_rfl))) rfl rfl
      have r0 := ((hR.next hb).2 k hk).1
      have r1 := ((hR.next hb).2 k hk).2
      have hrl := hv2 hl
      obtain ⟨av, cv, rfl⟩ := row_slice hrl
      go_simp
      refine hK _ _ ⟨hS.skip 6 rfl, fun h => ?_, fun h => ⟨_, hv1, fun h' => ?_, fun h' => ⟨w, hb, hrl, rfl⟩⟩⟩
      · rw [getD_set hls, if_pos rfl] at h; cases h
      · rw [getD_set hls, if_pos rfl] at h'; cases h'
  · intro listed a w hall ⟨hS, hB, hA⟩
    obtain ⟨v, hv1, _, hv3⟩ := hA (hall 4 (by decide))
    obtain ⟨w1, hb, hrow, rfl⟩ := hv3 (hall 6 (by decide))
    have hf := hS.frame [(17, .slice (some ⟨G, 0, none⟩) n n), (18, .int .i64 k), (19, .agg #[.slice a1 n1 c1, .int .i64 gap, .int .i64 rad, .slice a2 n2 c2, .slice a3 n3 c3]), (20, .func (.func 32) #[] #[.pointer (some ⟨pb, 0, none⟩), .pointer (some ⟨ab, 0, none⟩)]), (21, v), (22, .pointer (some ⟨G, k, none⟩))] rfl (of_decide_eq_true (by kernel_rfl)) (by
      simp only [List.map_cons, List.map_nil, List.all_cons, List.all_nil, hsz0]; rfl) (by
      intro p hp
      simp only [List.mem_cons, List.not_mem_nil, or_false] at hp
      rcases hp with rfl | rfl | rfl | rfl | rfl | rfl
      · exact hS.val 0 17 _ (hall 0 (by decide)) rfl rfl
      · exact hS.val 1 18 _ (hall 1 (by decide)) rfl rfl
      · exact hS.val 2 19 _ (hall 2 (by decide)) rfl rfl
      · exact hS.val 3 20 _ (hall 3 (by decide)) rfl rfl
      · exact hv1
      · exact hS.val 5 22 _ (hall 5 (by decide)) rfl rfl)
    rw [hf]
    exact hQ w1 v hb hrow
end Go.Proofs.Ytgpkdjhllekihaa.Geo
