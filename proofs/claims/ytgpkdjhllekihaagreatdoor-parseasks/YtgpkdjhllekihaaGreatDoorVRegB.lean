/- The statement of venue.Norm that appends a seat: it draws its order: by an invariant. -/
import Derived.Test.YtgpkdjhllekihaaGreatDoorVRegA
namespace Go.Proofs.YtgpkdjhllekihaaGreatDoor.Ven
set_option linter.unusedVariables false
set_option maxRecDepth 100000
open Go.RowKit Go.Shelf

theorem hidB {p : Prop} (h : p) : Hid p := h
theorem fresh_seat (W : World) (r x y kk : Int) (j : Nat) (u : Value) (h : (seatC ⟨r, x, y, kk⟩)[j]? = some u) : ((W.alloc (Obj.cells #[.int .i64 r, .int .i64 x, .int .i64 y, .int .i64 kk] 45)).drew).cell? ⟨W.heap.size, 0 + j, none⟩ = some u := by
 show (W.alloc (Obj.cells #[.int .i64 r, .int .i64 x, .int .i64 y, .int .i64 kk] 45)).cell? ⟨W.heap.size, 0 + j, none⟩ = some u
 rw [Nat.zero_add, World.cell?_alloc_at _ _ _ _ rfl]
 show (seatC ⟨r, x, y, kk⟩).toArray[j]? = some u
 rw [List.getElem?_toArray]
 exact h
set_option maxHeartbeats 8000000 in
theorem region11_10 {Q : Exit → Act → World → Prop} (a0 : Act) (az : Option Addr) (ns cs : Nat) (xs : List Value) (base : Nat) (v1 v2 v3 v4 : Value) (l : List Seat) (c1 b off k : Nat) (hk : k < l.length) (hns : ns ≤ 4096) (hl4 : l.length ≤ 4096) (r x y kk : Int) (B1 g : Nat) (W : World) (hsz0 : a0.tmps.size = 75) (h1 : a0.tmps[1]? = some (.pointer (some ⟨B1, 0, none⟩))) (h6 : a0.tmps[6]? = some (.pointer (some ⟨g, 0, none⟩))) (h8 : a0.tmps[8]? = some (.int .i64 (k : Int))) (hbase : base ≤ W.heap.size)
  (hx : Box W g 33 #[.slice az ns cs, v1, v2, v3, v4]) (hB1 : B1 < W.heap.size) (hv : W.cell? ⟨B1, 0, none⟩ = some (.slice (some ⟨b, off, none⟩) l.length c1)) (hs : SeatAt W b (off + k * 4) r x y kk)
  (hown : W.ownsRow base 45 4 (.slice az ns cs) ns xs)
  (hQ : ∀ w2 az2 cs2, w2.ownsRow base 45 4 (.slice az2 (ns + 1) cs2) (ns + 1) (xs ++ seatC ⟨r, x, y, kk⟩) → ((W.alloc (Obj.cells #[.int .i64 r, .int .i64 x, .int .i64 y, .int .i64 kk] 45)).drew).grownBy w2 (Value.slice az ns cs).ownBlock → Q .normal { tmps := putAll a0.tmps [(49, .pointer (some ⟨g, 0, none⟩)), (50, .slice az ns cs), (51, .pointer (some ⟨B1, 0, none⟩)), (52, .slice (some ⟨b, off, none⟩) l.length c1), (53, .int .i64 (k : Int)), (54, .pointer (some ⟨b, off + k * 4, none⟩)), (55, seatV r x y kk), (56, .slice (some ⟨W.heap.size, 0, none⟩) 1 1), (57, .slice az2 (ns + 1) cs2), (58, .pointer (some ⟨g, 0, none⟩))], defers := a0.defers } (w2.setCell ⟨g, 0, none⟩ (.slice az2 (ns + 1) cs2))) :
  (Code.region 10 #[{ dst := some 49, op := Op.fieldAddr 33 (Operand.tmp 6) 0, type := 0, pos := "venue.go:55", after := #[], guard := none }, { dst := some 50, op := Op.load 30 (Operand.tmp 49), type := 30, pos := "venue.go:55", after := #[{ on := 0, ground := Ground.data }], guard := none }, { dst := some 51, op := Op.fieldAddr 33 (Operand.tmp 1) 0, type := 0, pos := "venue.go:55", after := #[], guard := none }, { dst := some 52, op := Op.load 30 (Operand.tmp 51), type := 30, pos := "venue.go:55", after := #[{ on := 2, ground := Ground.data }], guard := none }, { dst := some 53, op := Op.move (Operand.tmp 8), type := 3, pos := "venue.go:55", after := #[], guard := none }, { dst := some 54, op := Op.indexAddr 30 (Operand.tmp 52) (Operand.tmp 53), type := 0, pos := "venue.go:55", after := #[{ on := 3, ground := Ground.data }, { on := 4, ground := Ground.data }], guard := none }, { dst := some 55, op := Op.load 45 (Operand.tmp 54), type := 45, pos := "venue.go:55", after := #[{ on := 5, ground := Ground.data }], guard := none }, { dst := some 56, op := Op.buildSlice 30 1 #[(0, Operand.tmp 55)], type := 30, pos := "venue.go:55", after := #[{ on := 6, ground := Ground.data }], guard := none }, { dst := some 57, op := Op.call { callee := Callee.builtin Builtin.append, args := #[Operand.tmp 50, Operand.tmp 56], argTypes := #[30, 30] }, type := 30, pos := "venue.go:55", after := #[{ on := 1, ground := Ground.data }, { on := 7, ground := Ground.data }], guard := none }, { dst := some 58, op := Op.fieldAddr 33 (Operand.tmp 6) 0, type := 0, pos := "venue.go:55", after := #[{ on := 0, ground := Ground.phase }, { on := 1, ground := Ground.phase }, { on := 2, ground := Ground.phase }, { on := 3, ground := Ground.phase }, { on := 4, ground := Ground.phase }, { on := 5, ground := Ground.phase }, { on := 6, ground := Ground.phase }, { on := 7, ground := Ground.phase }, { on := 8, ground := Ground.phase }], guard := none }, { dst := none, op := Op.store 30 (Operand.tmp 58) (Operand.tmp 57), type := 0, pos := "venue.go:55", after := #[{ on := 9, ground := Ground.data }, { on := 8, ground := Ground.data }, { on := 8, ground := Ground.chain }, { on := 0, ground := Ground.phase }, { on := 1, ground := Ground.phase }, { on := 2, ground := Ground.phase }, { on := 3, ground := Ground.phase }, { on := 4, ground := Ground.phase }, { on := 5, ground := Ground.phase }, { on := 6, ground := Ground.phase }, { on := 7, ground := Ground.phase }, { on := 8, ground := Ground.phase }], guard := none }] true).wp Tryz.prog Q a0 W := by
 have hn : ([some 49, some 50, some 51, some 52, some 53, some 54, some 55, some 56, some 57, some 58, none] : List (Option Nat)).Pairwise (fun x y => x = none ∨ x ≠ y) := of_decide_eq_true (by kernel_rfl)
 have hkz : (k : Int) < (l.length : Int) := by omega
 have hbb : Below W.heap.size W ((W.alloc (Obj.cells #[.int .i64 r, .int .i64 x, .int .i64 y, .int .i64 kk] 45)).drew) := ((Below.refl _ W).alloc (Nat.le_refl _) _).drew
 refine wp_region_inv (by kernel_rfl) (fun listed a w => Slots a0 [some 49, some 50, some 51, some 52, some 53, some 54, some 55, some 56, some 57, some 58, none] [some (.pointer (some ⟨g, 0, none⟩)), some (.slice az ns cs), some (.pointer (some ⟨B1, 0, none⟩)), some (.slice (some ⟨b, off, none⟩) l.length c1), some (.int .i64 (k : Int)), some (.pointer (some ⟨b, off + k * 4, none⟩)), some (seatV r x y kk), some (.slice (some ⟨W.heap.size, 0, none⟩) 1 1), none, some (.pointer (some ⟨g, 0, none⟩)), none] listed a ∧ (listed.getD 7 false = false → w = W.drew) ∧ (listed.getD 7 false = true → listed.getD 8 false = false → w = ((W.alloc (Obj.cells #[.int .i64 r, .int .i64 x, .int .i64 y, .int .i64 kk] 45)).drew)) ∧ (listed.getD 8 false = true → ∃ az2 cs2 w2, a.tmps[57]? = some (.slice az2 (ns + 1) cs2) ∧ w2.ownsRow base 45 4 (.slice az2 (ns + 1) cs2) (ns + 1) (xs ++ seatC ⟨r, x, y, kk⟩) ∧ ((W.alloc (Obj.cells #[.int .i64 r, .int .i64 x, .int .i64 y, .int .i64 kk] 45)).drew).grownBy w2 (Value.slice az ns cs).ownBlock ∧ w = if listed.getD 10 false = true then w2.setCell ⟨g, 0, none⟩ (.slice az2 (ns + 1) cs2) else w2)) (by kernel_rfl) ?_ ?_ ?_
 ·exact ⟨Slots.start _ _ _ _, fun _ => rfl, fun h => (by rw [start_false] at h; cases h), fun h => (by rw [start_false] at h; cases h)⟩
 ·intro listed a w i' hsl hilt hl hd hcl ⟨hS, hA0, hB0, hC0⟩
  have HA := hidB hA0
  have HB := hidB hB0
  have HC := hidB hC0
  clear hA0 hB0 hC0
  have hsz : Hid (a.tmps.size = 75) := hS.size.trans hsz0
  have hls : i' < listed.size := by rw [hsl]; exact hilt
  have hcase : i' = 0 ∨ i' = 1 ∨ i' = 2 ∨ i' = 3 ∨ i' = 4 ∨ i' = 5 ∨ i' = 6 ∨ i' = 7 ∨ i' = 8 ∨ i' = 9 ∨ i' = 10 := by
   have : i' < 11 := hilt
   omega
  rcases hcase with rfl | rfl | rfl | rfl | rfl | rfl | rfl | rfl | rfl | rfl | rfl
  ·
   refine wpOp_step rfl ?_
   intro K hK
   have q6 : a.tmps[6]? = some (.pointer (some ⟨g, 0, none⟩)) := (hS.keep 6 (of_decide_eq_true (by kernel_rfl))).trans h6
   have y1 : listed.getD 1 false = false := by
    cases h : listed.getD 1 false with
    | false => rfl
    | true => have := hcl 1 0 h (of_decide_eq_true (by kernel_rfl)); rw [hl] at this; cases this
   have y8 : listed.getD 8 false = false := by
    cases h : listed.getD 8 false with
    | false => rfl
    | true => have := hcl 8 1 h (of_decide_eq_true (by kernel_rfl)); rw [y1] at this; cases this
   have hb : Below W.heap.size W w := by
    cases h : listed.getD 7 false with
    | false => rw [HA.out h]; exact (Below.refl _ W).drew
    | true => rw [HB.out h y8]; exact hbb
   have ml := (hx.next hb).lt
   have m0 := (hx.next hb).cell 0 _ rfl
   go_simp
   exact hK _ _ ⟨hS.put hn 0 49 _ rfl (by rw [hsz0]; omega) (fun u h => by injection h with h; injection h with h; exact h.symm), fun h => (by rw [getD_set hls, if_neg (by omega)] at h; exact HA.out h), fun h h' => (by rw [getD_set hls, if_neg (by omega)] at h h'; exact HB.out h h'), fun h => (by
    rw [getD_set hls, if_neg (by omega)] at h
    obtain ⟨az2, cs2, w2, s1, s2, s3, s4⟩ := HC.out h
    exact ⟨az2, cs2, w2, by simpa using s1, s2, s3, by rw [show (listed.setIfInBounds 0 true).getD 10 false = listed.getD 10 false by rw [getD_set hls, if_neg (by omega)]]; exact s4⟩)⟩
  ·
   refine wpOp_step rfl ?_
   intro K hK
   have q49 : a.tmps[49]? = some (.pointer (some ⟨g, 0, none⟩)) := hS.val 0 49 _ (hd 0 (of_decide_eq_true (by kernel_rfl))) rfl rfl
   have y8 : listed.getD 8 false = false := by
    cases h : listed.getD 8 false with
    | false => rfl
    | true => have := hcl 8 1 h (of_decide_eq_true (by kernel_rfl)); rw [hl] at this; cases this
   have hb : Below W.heap.size W w := by
    cases h : listed.getD 7 false with
    | false => rw [HA.out h]; exact (Below.refl _ W).drew
    | true => rw [HB.out h y8]; exact hbb
   have m0 := (hx.next hb).cell 0 _ rfl
   go_simp
   exact hK _ _ ⟨hS.put hn 1 50 _ rfl (by rw [hsz0]; omega) (fun u h => by injection h with h; injection h with h; exact h.symm), fun h => (by rw [getD_set hls, if_neg (by omega)] at h; exact HA.out h), fun h h' => (by rw [getD_set hls, if_neg (by omega)] at h h'; exact HB.out h h'), fun h => (by
    rw [getD_set hls, if_neg (by omega)] at h
    obtain ⟨az2, cs2, w2, s1, s2, s3, s4⟩ := HC.out h
    exact ⟨az2, cs2, w2, by simpa using s1, s2, s3, by rw [show (listed.setIfInBounds 1 true).getD 10 false = listed.getD 10 false by rw [getD_set hls, if_neg (by omega)]]; exact s4⟩)⟩
  ·
   refine wpOp_step rfl ?_
   intro K hK
   have q1 : a.tmps[1]? = some (.pointer (some ⟨B1, 0, none⟩)) := (hS.keep 1 (of_decide_eq_true (by kernel_rfl))).trans h1
   have y3 : listed.getD 3 false = false := by
    cases h : listed.getD 3 false with
    | false => rfl
    | true => have := hcl 3 2 h (of_decide_eq_true (by kernel_rfl)); rw [hl] at this; cases this
   have y5 : listed.getD 5 false = false := by
    cases h : listed.getD 5 false with
    | false => rfl
    | true => have := hcl 5 3 h (of_decide_eq_true (by kernel_rfl)); rw [y3] at this; cases this
   have y6 : listed.getD 6 false = false := by
    cases h : listed.getD 6 false with
    | false => rfl
    | true => have := hcl 6 5 h (of_decide_eq_true (by kernel_rfl)); rw [y5] at this; cases this
   have y7 : listed.getD 7 false = false := by
    cases h : listed.getD 7 false with
    | false => rfl
    | true => have := hcl 7 6 h (of_decide_eq_true (by kernel_rfl)); rw [y6] at this; cases this
   have y8 : listed.getD 8 false = false := by
    cases h : listed.getD 8 false with
    | false => rfl
    | true => have := hcl 8 7 h (of_decide_eq_true (by kernel_rfl)); rw [y7] at this; cases this
   have hb : Below W.heap.size W w := by
    cases h : listed.getD 7 false with
    | false => rw [HA.out h]; exact (Below.refl _ W).drew
    | true => rw [HB.out h y8]; exact hbb
   have ml := Nat.lt_of_lt_of_le hB1 hb.size
   have m0 := (hb.cell (p := ⟨B1, 0, none⟩) hB1).trans hv
   go_simp
   exact hK _ _ ⟨hS.put hn 2 51 _ rfl (by rw [hsz0]; omega) (fun u h => by injection h with h; injection h with h; exact h.symm), fun h => (by rw [getD_set hls, if_neg (by omega)] at h; exact HA.out h), fun h h' => (by rw [getD_set hls, if_neg (by omega)] at h h'; exact HB.out h h'), fun h => (by
    rw [getD_set hls, if_neg (by omega)] at h
    obtain ⟨az2, cs2, w2, s1, s2, s3, s4⟩ := HC.out h
    exact ⟨az2, cs2, w2, by simpa using s1, s2, s3, by rw [show (listed.setIfInBounds 2 true).getD 10 false = listed.getD 10 false by rw [getD_set hls, if_neg (by omega)]]; exact s4⟩)⟩
  ·
   refine wpOp_step rfl ?_
   intro K hK
   have q51 : a.tmps[51]? = some (.pointer (some ⟨B1, 0, none⟩)) := hS.val 2 51 _ (hd 2 (of_decide_eq_true (by kernel_rfl))) rfl rfl
   have y5 : listed.getD 5 false = false := by
    cases h : listed.getD 5 false with
    | false => rfl
    | true => have := hcl 5 3 h (of_decide_eq_true (by kernel_rfl)); rw [hl] at this; cases this
   have y6 : listed.getD 6 false = false := by
    cases h : listed.getD 6 false with
    | false => rfl
    | true => have := hcl 6 5 h (of_decide_eq_true (by kernel_rfl)); rw [y5] at this; cases this
   have y7 : listed.getD 7 false = false := by
    cases h : listed.getD 7 false with
    | false => rfl
    | true => have := hcl 7 6 h (of_decide_eq_true (by kernel_rfl)); rw [y6] at this; cases this
   have y8 : listed.getD 8 false = false := by
    cases h : listed.getD 8 false with
    | false => rfl
    | true => have := hcl 8 7 h (of_decide_eq_true (by kernel_rfl)); rw [y7] at this; cases this
   have hb : Below W.heap.size W w := by
    cases h : listed.getD 7 false with
    | false => rw [HA.out h]; exact (Below.refl _ W).drew
    | true => rw [HB.out h y8]; exact hbb
   have m0 := (hb.cell (p := ⟨B1, 0, none⟩) hB1).trans hv
   go_simp
   exact hK _ _ ⟨hS.put hn 3 52 _ rfl (by rw [hsz0]; omega) (fun u h => by injection h with h; injection h with h; exact h.symm), fun h => (by rw [getD_set hls, if_neg (by omega)] at h; exact HA.out h), fun h h' => (by rw [getD_set hls, if_neg (by omega)] at h h'; exact HB.out h h'), fun h => (by
    rw [getD_set hls, if_neg (by omega)] at h
    obtain ⟨az2, cs2, w2, s1, s2, s3, s4⟩ := HC.out h
    exact ⟨az2, cs2, w2, by simpa using s1, s2, s3, by rw [show (listed.setIfInBounds 3 true).getD 10 false = listed.getD 10 false by rw [getD_set hls, if_neg (by omega)]]; exact s4⟩)⟩
  ·
   refine wpOp_step rfl ?_
   intro K hK
   have q8 : a.tmps[8]? = some (.int .i64 (k : Int)) := (hS.keep 8 (of_decide_eq_true (by kernel_rfl))).trans h8
   have y5 : listed.getD 5 false = false := by
    cases h : listed.getD 5 false with
    | false => rfl
    | true => have := hcl 5 4 h (of_decide_eq_true (by kernel_rfl)); rw [hl] at this; cases this
   have y6 : listed.getD 6 false = false := by
    cases h : listed.getD 6 false with
    | false => rfl
    | true => have := hcl 6 5 h (of_decide_eq_true (by kernel_rfl)); rw [y5] at this; cases this
   have y7 : listed.getD 7 false = false := by
    cases h : listed.getD 7 false with
    | false => rfl
    | true => have := hcl 7 6 h (of_decide_eq_true (by kernel_rfl)); rw [y6] at this; cases this
   have y8 : listed.getD 8 false = false := by
    cases h : listed.getD 8 false with
    | false => rfl
    | true => have := hcl 8 7 h (of_decide_eq_true (by kernel_rfl)); rw [y7] at this; cases this
   have hb : Below W.heap.size W w := by
    cases h : listed.getD 7 false with
    | false => rw [HA.out h]; exact (Below.refl _ W).drew
    | true => rw [HB.out h y8]; exact hbb
   go_simp
   exact hK _ _ ⟨hS.put hn 4 53 _ rfl (by rw [hsz0]; omega) (fun u h => by injection h with h; injection h with h; exact h.symm), fun h => (by rw [getD_set hls, if_neg (by omega)] at h; exact HA.out h), fun h h' => (by rw [getD_set hls, if_neg (by omega)] at h h'; exact HB.out h h'), fun h => (by
    rw [getD_set hls, if_neg (by omega)] at h
    obtain ⟨az2, cs2, w2, s1, s2, s3, s4⟩ := HC.out h
    exact ⟨az2, cs2, w2, by simpa using s1, s2, s3, by rw [show (listed.setIfInBounds 4 true).getD 10 false = listed.getD 10 false by rw [getD_set hls, if_neg (by omega)]]; exact s4⟩)⟩
  ·
   refine wpOp_step rfl ?_
   intro K hK
   have q52 : a.tmps[52]? = some (.slice (some ⟨b, off, none⟩) l.length c1) := hS.val 3 52 _ (hd 3 (of_decide_eq_true (by kernel_rfl))) rfl rfl
   have q53 : a.tmps[53]? = some (.int .i64 (k : Int)) := hS.val 4 53 _ (hd 4 (of_decide_eq_true (by kernel_rfl))) rfl rfl
   have y6 : listed.getD 6 false = false := by
    cases h : listed.getD 6 false with
    | false => rfl
    | true => have := hcl 6 5 h (of_decide_eq_true (by kernel_rfl)); rw [hl] at this; cases this
   have y7 : listed.getD 7 false = false := by
    cases h : listed.getD 7 false with
    | false => rfl
    | true => have := hcl 7 6 h (of_decide_eq_true (by kernel_rfl)); rw [y6] at this; cases this
   have y8 : listed.getD 8 false = false := by
    cases h : listed.getD 8 false with
    | false => rfl
    | true => have := hcl 8 7 h (of_decide_eq_true (by kernel_rfl)); rw [y7] at this; cases this
   have hb : Below W.heap.size W w := by
    cases h : listed.getD 7 false with
    | false => rw [HA.out h]; exact (Below.refl _ W).drew
    | true => rw [HB.out h y8]; exact hbb
   go_simp
   exact hK _ _ ⟨hS.put hn 5 54 _ rfl (by rw [hsz0]; omega) (fun u h => by injection h with h; injection h with h; exact h.symm), fun h => (by rw [getD_set hls, if_neg (by omega)] at h; exact HA.out h), fun h h' => (by rw [getD_set hls, if_neg (by omega)] at h h'; exact HB.out h h'), fun h => (by
    rw [getD_set hls, if_neg (by omega)] at h
    obtain ⟨az2, cs2, w2, s1, s2, s3, s4⟩ := HC.out h
    exact ⟨az2, cs2, w2, by simpa using s1, s2, s3, by rw [show (listed.setIfInBounds 5 true).getD 10 false = listed.getD 10 false by rw [getD_set hls, if_neg (by omega)]]; exact s4⟩)⟩
  ·
   refine wpOp_step rfl ?_
   intro K hK
   have q54 : a.tmps[54]? = some (.pointer (some ⟨b, off + k * 4, none⟩)) := hS.val 5 54 _ (hd 5 (of_decide_eq_true (by kernel_rfl))) rfl rfl
   have y7 : listed.getD 7 false = false := by
    cases h : listed.getD 7 false with
    | false => rfl
    | true => have := hcl 7 6 h (of_decide_eq_true (by kernel_rfl)); rw [hl] at this; cases this
   have y8 : listed.getD 8 false = false := by
    cases h : listed.getD 8 false with
    | false => rfl
    | true => have := hcl 8 7 h (of_decide_eq_true (by kernel_rfl)); rw [y7] at this; cases this
   have hb : Below W.heap.size W w := by
    cases h : listed.getD 7 false with
    | false => rw [HA.out h]; exact (Below.refl _ W).drew
    | true => rw [HB.out h y8]; exact hbb
   obtain ⟨_, m0, m1, m2, m3⟩ := hs.next hb
   go_simp
   exact hK _ _ ⟨hS.put hn 6 55 _ rfl (by rw [hsz0]; omega) (fun u h => by injection h with h; injection h with h; exact h.symm), fun h => (by rw [getD_set hls, if_neg (by omega)] at h; exact HA.out h), fun h h' => (by rw [getD_set hls, if_neg (by omega)] at h h'; exact HB.out h h'), fun h => (by
    rw [getD_set hls, if_neg (by omega)] at h
    obtain ⟨az2, cs2, w2, s1, s2, s3, s4⟩ := HC.out h
    exact ⟨az2, cs2, w2, by simpa using s1, s2, s3, by rw [show (listed.setIfInBounds 6 true).getD 10 false = listed.getD 10 false by rw [getD_set hls, if_neg (by omega)]]; exact s4⟩)⟩
  ·
   refine wpOp_step rfl ?_
   intro K hK
   have q55 : a.tmps[55]? = some (seatV r x y kk) := hS.val 6 55 _ (hd 6 (of_decide_eq_true (by kernel_rfl))) rfl rfl
   have y8 : listed.getD 8 false = false := by
    cases h : listed.getD 8 false with
    | false => rfl
    | true => have := hcl 8 7 h (of_decide_eq_true (by kernel_rfl)); rw [hl] at this; cases this
   have hb : Below W.heap.size W w := by
    cases h : listed.getD 7 false with
    | false => rw [HA.out h]; exact (Below.refl _ W).drew
    | true => rw [HB.out h y8]; exact hbb
   have hw := HA.out hl
   subst hw
   go_simp
   exact hK _ _ ⟨hS.put hn 7 56 _ rfl (by rw [hsz0]; omega) (fun u h => by injection h with h; injection h with h; exact h.symm), fun h => (by rw [getD_set hls, if_pos rfl] at h; cases h), fun _ _ => rfl, fun h => (by rw [getD_set hls, if_neg (by omega), y8] at h; cases h)⟩
  ·
   refine wpOp_step rfl ?_
   intro K hK
   have q50 : a.tmps[50]? = some (.slice az ns cs) := hS.val 1 50 _ (hd 1 (of_decide_eq_true (by kernel_rfl))) rfl rfl
   have q56 : a.tmps[56]? = some (.slice (some ⟨W.heap.size, 0, none⟩) 1 1) := hS.val 7 56 _ (hd 7 (of_decide_eq_true (by kernel_rfl))) rfl rfl
   have y10 : listed.getD 10 false = false := by
    cases h : listed.getD 10 false with
    | false => rfl
    | true => have := hcl 10 8 h (of_decide_eq_true (by kernel_rfl)); rw [hl] at this; cases this
   have h7 := hd 7 (of_decide_eq_true (by kernel_rfl))
   have hw := HB.out h7 hl
   obtain ⟨i0, hi, hz0, hz1, hz2⟩ := info34
   have hown7 := row_next hown hbb
   rw [← hw] at hown7
   refine step_append_own rfl _ _ 30 rfl base 45 i0 (seatV 0 0 0 0) 4 32 Tryz.underlying30 hi hz0 hz1 hz2 rfl (by omega) (.slice az ns cs) ns xs (eval_of q50) hown7 ⟨W.heap.size, 0, none⟩ 1 1 (seatC ⟨r, x, y, kk⟩) (eval_of q56) rfl ?_ ?_ (by unfold maxLen; omega) (by omega) ?_ ?_
   ·intro j u hj
    rw [hw, Addr.add_lit]
    exact fresh_seat W r x y kk j u hj
   ·intro u hu; simp [seatC] at hu; rcases hu with rfl | rfl | rfl | rfl <;> rfl
   ·rw [hw]; exact Nat.le_trans hbase hbb.size
   ·intro v' w' hown' hgr
    obtain ⟨az2, cs2, rfl⟩ := row_slice hown'
    have hs2 : 57 < a.tmps.size := by rw [hsz.out]; omega
    refine hK _ _ ⟨hS.put hn 8 57 _ rfl (by rw [hsz0]; omega) (fun u h => by cases h), fun h => ?_, fun _ h' => ?_, fun _ => ⟨az2, cs2, w', by simp [Act.put, hs2], hown', by rw [← hw]; exact hgr, ?_⟩⟩
    ·rw [getD_set hls, if_neg (by omega), h7] at h; cases h
    ·rw [getD_set hls, if_pos rfl] at h'; cases h'
    ·rw [show (listed.setIfInBounds 8 true).getD 10 false = false by rw [getD_set hls, if_neg (by omega), y10], if_neg (by decide)]
  ·
   refine wpOp_step rfl ?_
   intro K hK
   have q6 : a.tmps[6]? = some (.pointer (some ⟨g, 0, none⟩)) := (hS.keep 6 (of_decide_eq_true (by kernel_rfl))).trans h6
   have hlt : g < w.heap.size := by
    cases h8 : listed.getD 8 false with
    | true =>
     obtain ⟨az2, cs2, w2, s1, s2, s3, s4⟩ := HC.out h8
     have h1 : W.heap.size ≤ w2.heap.size := Nat.le_trans hbb.size s3.size
     have h2 : w.heap.size = w2.heap.size := by rw [s4]; split <;> simp
     have := hx.lt; omega
    | false =>
     cases h7 : listed.getD 7 false with
     | false => rw [HA.out h7]; exact hx.lt
     | true => rw [HB.out h7 h8]; exact Nat.lt_of_lt_of_le hx.lt hbb.size
   go_simp
   exact hK _ _ ⟨hS.put hn 9 58 _ rfl (by rw [hsz0]; omega) (fun u h => by injection h with h; injection h with h; exact h.symm), fun h => (by rw [getD_set hls, if_neg (by omega)] at h; exact HA.out h), fun h h' => (by rw [getD_set hls, if_neg (by omega)] at h h'; exact HB.out h h'), fun h => (by
    rw [getD_set hls, if_neg (by omega)] at h
    obtain ⟨az2, cs2, w2, s1, s2, s3, s4⟩ := HC.out h
    exact ⟨az2, cs2, w2, by simpa using s1, s2, s3, by rw [show (listed.setIfInBounds 9 true).getD 10 false = listed.getD 10 false by rw [getD_set hls, if_neg (by omega)]]; exact s4⟩)⟩
  ·
   refine wpOp_step rfl ?_
   intro K hK
   have q58 : a.tmps[58]? = some (.pointer (some ⟨g, 0, none⟩)) := hS.val 9 58 _ (hd 9 (of_decide_eq_true (by kernel_rfl))) rfl rfl
   have h8 := hd 8 (of_decide_eq_true (by kernel_rfl))
   obtain ⟨az2, cs2, w2, q57, s2, s3, s4⟩ := HC.out h8
   rw [hl] at s4
   have hw : w = w2 := s4
   clear s4
   subst hw
   have hx2 := (hx.next hbb).grown s3 ((hx.next hbb).not_row (by decide) (row_next hown hbb))
   have r0 := hx2.cell 0 _ rfl
   have f0 := hx2.frozen 0
   have bl := hx2.lt
   go_simp
   refine hK _ _ ⟨hS.skip 10 rfl, fun h => ?_, fun _ h' => ?_, fun _ => ⟨az2, cs2, w, q57, s2, s3, ?_⟩⟩
   ·have h7 := hcl 8 7 h8 (of_decide_eq_true (by kernel_rfl))
    rw [getD_set hls, if_neg (by omega), h7] at h; cases h
   ·rw [getD_set hls, if_neg (by omega), h8] at h'; cases h'
   ·rw [getD_set hls, if_pos rfl]; rfl
 ·intro listed a w hall ⟨hS, hA, hB, hC⟩
  obtain ⟨az2, cs2, w2, s1, s2, s3, s4⟩ := hC (hall 8 (by decide))
  rw [hall 10 (by decide)] at s4
  have hw : w = w2.setCell ⟨g, 0, none⟩ (.slice az2 (ns + 1) cs2) := s4
  subst hw
  have hf := hS.frame [(49, .pointer (some ⟨g, 0, none⟩)), (50, .slice az ns cs), (51, .pointer (some ⟨B1, 0, none⟩)), (52, .slice (some ⟨b, off, none⟩) l.length c1), (53, .int .i64 (k : Int)), (54, .pointer (some ⟨b, off + k * 4, none⟩)), (55, seatV r x y kk), (56, .slice (some ⟨W.heap.size, 0, none⟩) 1 1), (57, .slice az2 (ns + 1) cs2), (58, .pointer (some ⟨g, 0, none⟩))] rfl (of_decide_eq_true (by kernel_rfl)) (by
   simp only [List.map_cons, List.map_nil, List.all_cons, List.all_nil, hsz0]; rfl) (by
   intro p hp
   simp only [List.mem_cons, List.not_mem_nil, or_false] at hp
   rcases hp with rfl | rfl | rfl | rfl | rfl | rfl | rfl | rfl | rfl | rfl
   ·exact hS.val 0 49 _ (hall 0 (by decide)) rfl rfl
   ·exact hS.val 1 50 _ (hall 1 (by decide)) rfl rfl
   ·exact hS.val 2 51 _ (hall 2 (by decide)) rfl rfl
   ·exact hS.val 3 52 _ (hall 3 (by decide)) rfl rfl
   ·exact hS.val 4 53 _ (hall 4 (by decide)) rfl rfl
   ·exact hS.val 5 54 _ (hall 5 (by decide)) rfl rfl
   ·exact hS.val 6 55 _ (hall 6 (by decide)) rfl rfl
   ·exact hS.val 7 56 _ (hall 7 (by decide)) rfl rfl
   ·exact s1
   ·exact hS.val 9 58 _ (hall 9 (by decide)) rfl rfl)
  rw [hf]
  exact hQ w2 az2 cs2 s2 s3
end Go.Proofs.YtgpkdjhllekihaaGreatDoor.Ven
