/- GeomMoved's statement that moves a seat, which draws its order, by an invariant. -/
import Derived.Test.YtgpkdjhllekihaaGTold
namespace Go.Proofs.Ytgpkdjhllekihaa.Geo
set_option linter.unusedVariables false
set_option maxRecDepth 100000
open Go.RowKit Go.Shelf
open Go.Proofs.Ytgpkdjhllekihaa.Ven (Seat Pole Ven seatV seatC Box SeatAt Cells mixed below_alloc Slots wp_region_inv getD_set start_false putAll Slots.start slot_of)

/-- A seat's place is stored into a row of seats. -/
theorem cells_at {w : World} {G : Nat} {L : List Seat} {k : Nat} {s s' : Seat} (h : Cells 4 seatC w G 0 (L.set k s)) (hk : k < L.length) (p : Nat) (hp : p < 4) (v : Value) (hv : ∀ j, j < 4 → (seatC s')[j]? = if j = p then some v else (seatC s)[j]?) : Cells 4 seatC (w.setCell ⟨G, k * 4 + p, none⟩ v) G 0 (L.set k s') := by
  refine ⟨by simpa using h.1, fun i hi0 j u hu => ?_⟩
  have hi : i < L.length := by rw [List.length_set] at hi0; exact hi0
  have hj : j < 4 := (List.getElem?_eq_some_iff.1 hu).1
  by_cases e : i = k
  · subst e
    rw [List.getElem_set_self, hv j hj] at hu
    by_cases ej : j = p
    · subst ej
      rw [if_pos rfl] at hu
      have h0 : w.cell? ⟨G, 0 + i * 4 + j, none⟩ = some ((seatC s)[j]'hj) := h.2 i (by rw [List.length_set]; exact hi) j _ (by rw [List.getElem_set_self]; exact List.getElem?_eq_getElem hj)
      rw [Nat.zero_add] at h0 ⊢
      rw [World.cell?_setCell_same _ _ _ h0]; exact hu
    · rw [if_neg ej] at hu
      rw [World.cell?_setCell_other _ _ _ _ (by intro h'; have := congrArg Addr.off h'; simp at this; omega)]
      exact h.2 i (by rw [List.length_set]; exact hi) j u (by rw [List.getElem_set_self]; exact hu)
  · rw [World.cell?_setCell_other _ _ _ _ (by intro h'; have := congrArg Addr.off h'; simp at this; omega)]
    rw [List.getElem_set_ne (fun e' => e e'.symm)] at hu
    exact h.2 i (by rw [List.length_set]; exact hi) j u (by rw [List.getElem_set_ne (fun e' => e e'.symm)]; exact hu)
theorem cells_seat {w : World} {G : Nat} {L : List Seat} {k : Nat} {r x y kk : Int} (h : Cells 4 seatC w G 0 (L.set k ⟨r, x, y, kk⟩)) (hk : k < L.length) : w.cell? ⟨G, k * 4 + 1, none⟩ = some (.int .i64 x) ∧ w.cell? ⟨G, k * 4 + 2, none⟩ = some (.int .i64 y) := by
  have h1 := h.2 k (by rw [List.length_set]; exact hk) 1 (.int .i64 x) (by rw [List.getElem_set_self]; rfl)
  have h2 := h.2 k (by rw [List.length_set]; exact hk) 2 (.int .i64 y) (by rw [List.getElem_set_self]; rfl)
  rw [Nat.zero_add] at h1 h2
  exact ⟨h1, h2⟩
set_option maxHeartbeats 8000000 in
theorem moved_region {Q : Exit → Act → World → Prop} (a0 : Act) (W : World) (hsz0 : a0.tmps.size = 173) (ub G m cap k : Nat) (v1 v2 v3 v4 : Value) (r x y kk dx dy : Int) (L : List Seat) (hk : k < L.length) (hm : L.length = m) (hG : G < W.heap.size) (hu : ub < G)
    (h10 : a0.tmps[10]? = some (.pointer (some ⟨ub, 0, none⟩))) (h13 : a0.tmps[13]? = some (.int .i64 (k : Int))) (h11 : a0.tmps[11]? = some (.int .i64 dx)) (h12 : a0.tmps[12]? = some (.int .i64 dy))
    (wx : IntKind.i64.wrap (x + dx) = x + dx) (wy : IntKind.i64.wrap (y - dy) = y - dy)
    (hx : Box W ub 26 #[.slice (some ⟨G, 0, none⟩) m cap, v1, v2, v3, v4]) (hfz : ∀ i, W.frozen? ⟨G, i, none⟩ = false) (hC : Cells 4 seatC W G 0 (L.set k ⟨r, x, y, kk⟩))
    (hQ : ∀ w', Below G W w' → (∀ i, w'.frozen? ⟨G, i, none⟩ = false) → Cells 4 seatC w' G 0 (L.set k ⟨r, x + dx, y - dy, kk⟩) → Q .normal { tmps := putAll a0.tmps [(44, .pointer (some ⟨ub, 0, none⟩)), (45, .slice (some ⟨G, 0, none⟩) m cap), (46, .int .i64 (k : Int)), (47, .pointer (some ⟨ub, 0, none⟩)), (48, .slice (some ⟨G, 0, none⟩) m cap), (49, .int .i64 (k : Int)), (50, .pointer (some ⟨ub, 0, none⟩)), (51, .slice (some ⟨G, 0, none⟩) m cap), (52, .int .i64 (k : Int)), (53, .pointer (some ⟨G, k * 4, none⟩)), (54, .pointer (some ⟨G, k * 4 + 1, none⟩)), (55, .int .i64 x), (56, .int .i64 dx), (57, .int .i64 (x + dx)), (58, .pointer (some ⟨ub, 0, none⟩)), (59, .slice (some ⟨G, 0, none⟩) m cap), (60, .int .i64 (k : Int)), (61, .pointer (some ⟨G, k * 4, none⟩)), (62, .pointer (some ⟨G, k * 4 + 2, none⟩)), (63, .int .i64 y), (64, .int .i64 dy), (65, .int .i64 (y - dy)), (66, .pointer (some ⟨G, k * 4, none⟩)), (67, .pointer (some ⟨G, k * 4 + 1, none⟩)), (68, .pointer (some ⟨G, k * 4, none⟩)), (69, .pointer (some ⟨G, k * 4 + 2, none⟩))], defers := a0.defers } w') :
    (Code.region 8 #[{ dst := some 44, op := Op.fieldAddr 26 (Operand.tmp 10) 0, type := 0, pos := "law.go:68", after := #[], guard := none }, { dst := some 45, op := Op.load 22 (Operand.tmp 44), type := 22, pos := "law.go:68", after := #[{ on := 0, ground := Ground.data }], guard := none }, { dst := some 46, op := Op.move (Operand.tmp 13), type := 3, pos := "law.go:68", after := #[], guard := none }, { dst := some 47, op := Op.fieldAddr 26 (Operand.tmp 10) 0, type := 0, pos := "law.go:68", after := #[{ on := 24, ground := Ground.gcOnly Departure.lateStores }], guard := none }, { dst := some 48, op := Op.load 22 (Operand.tmp 47), type := 22, pos := "law.go:68", after := #[{ on := 3, ground := Ground.data }, { on := 24, ground := Ground.gcOnly Departure.lateStores }], guard := none }, { dst := some 49, op := Op.move (Operand.tmp 13), type := 3, pos := "law.go:68", after := #[{ on := 24, ground := Ground.gcOnly Departure.lateStores }], guard := none }, { dst := some 50, op := Op.fieldAddr 26 (Operand.tmp 10) 0, type := 0, pos := "law.go:68", after := #[], guard := none }, { dst := some 51, op := Op.load 22 (Operand.tmp 50), type := 22, pos := "law.go:68", after := #[{ on := 6, ground := Ground.data }], guard := none }, { dst := some 52, op := Op.move (Operand.tmp 13), type := 3, pos := "law.go:68", after := #[], guard := none }, { dst := some 53, op := Op.indexAddr 22 (Operand.tmp 51) (Operand.tmp 52), type := 0, pos := "law.go:68", after := #[{ on := 7, ground := Ground.data }, { on := 8, ground := Ground.data }], guard := none }, { dst := some 54, op := Op.fieldAddr 28 (Operand.tmp 53) 1, type := 0, pos := "law.go:68", after := #[{ on := 9, ground := Ground.data }], guard := none }, { dst := some 55, op := Op.load 3 (Operand.tmp 54), type := 3, pos := "law.go:68", after := #[{ on := 10, ground := Ground.data }], guard := none }, { dst := some 56, op := Op.move (Operand.tmp 11), type := 3, pos := "law.go:68", after := #[], guard := none }, { dst := some 57, op := Op.binOp BinOp.add 3 (Operand.tmp 55) (Operand.tmp 56) 3, type := 3, pos := "law.go:68", after := #[{ on := 11, ground := Ground.data }, { on := 12, ground := Ground.data }], guard := none }, { dst := some 58, op := Op.fieldAddr 26 (Operand.tmp 10) 0, type := 0, pos := "law.go:68", after := #[], guard := none }, { dst := some 59, op := Op.load 22 (Operand.tmp 58), type := 22, pos := "law.go:68", after := #[{ on := 14, ground := Ground.data }], guard := none }, { dst := some 60, op := Op.move (Operand.tmp 13), type := 3, pos := "law.go:68", after := #[], guard := none }, { dst := some 61, op := Op.indexAddr 22 (Operand.tmp 59) (Operand.tmp 60), type := 0, pos := "law.go:68", after := #[{ on := 15, ground := Ground.data }, { on := 16, ground := Ground.data }], guard := none }, { dst := some 62, op := Op.fieldAddr 28 (Operand.tmp 61) 2, type := 0, pos := "law.go:68", after := #[{ on := 17, ground := Ground.data }], guard := none }, { dst := some 63, op := Op.load 3 (Operand.tmp 62), type := 3, pos := "law.go:68", after := #[{ on := 18, ground := Ground.data }], guard := none }, { dst := some 64, op := Op.move (Operand.tmp 12), type := 3, pos := "law.go:68", after := #[], guard := none }, { dst := some 65, op := Op.binOp BinOp.sub 3 (Operand.tmp 63) (Operand.tmp 64) 3, type := 3, pos := "law.go:68", after := #[{ on := 19, ground := Ground.data }, { on := 20, ground := Ground.data }], guard := none }, { dst := some 66, op := Op.indexAddr 22 (Operand.tmp 45) (Operand.tmp 46), type := 0, pos := "law.go:68", after := #[{ on := 1, ground := Ground.data }, { on := 2, ground := Ground.data }, { on := 0, ground := Ground.phase }, { on := 1, ground := Ground.phase }, { on := 2, ground := Ground.phase }, { on := 3, ground := Ground.textOnly Departure.lateStores }, { on := 4, ground := Ground.textOnly Departure.lateStores }, { on := 5, ground := Ground.textOnly Departure.lateStores }, { on := 6, ground := Ground.phase }, { on := 7, ground := Ground.phase }, { on := 8, ground := Ground.phase }, { on := 9, ground := Ground.phase }, { on := 10, ground := Ground.phase }, { on := 11, ground := Ground.phase }, { on := 12, ground := Ground.phase }, { on := 13, ground := Ground.phase }, { on := 14, ground := Ground.textOnly Departure.lateStores }, { on := 15, ground := Ground.textOnly Departure.lateStores }, { on := 16, ground := Ground.textOnly Departure.lateStores }, { on := 17, ground := Ground.textOnly Departure.lateStoresUnsure }, { on := 18, ground := Ground.textOnly Departure.lateStoresUnsure }, { on := 19, ground := Ground.phase }, { on := 20, ground := Ground.textOnly Departure.lateStores }, { on := 21, ground := Ground.textOnly Departure.lateStoresUnsure }], guard := none }, { dst := some 67, op := Op.fieldAddr 28 (Operand.tmp 66) 1, type := 0, pos := "law.go:68", after := #[{ on := 22, ground := Ground.data }, { on := 0, ground := Ground.phase }, { on := 1, ground := Ground.phase }, { on := 2, ground := Ground.phase }, { on := 3, ground := Ground.textOnly Departure.lateStores }, { on := 4, ground := Ground.textOnly Departure.lateStores }, { on := 5, ground := Ground.textOnly Departure.lateStores }, { on := 6, ground := Ground.phase }, { on := 7, ground := Ground.phase }, { on := 8, ground := Ground.phase }, { on := 9, ground := Ground.phase }, { on := 10, ground := Ground.phase }, { on := 11, ground := Ground.phase }, { on := 12, ground := Ground.phase }, { on := 13, ground := Ground.phase }, { on := 14, ground := Ground.textOnly Departure.lateStores }, { on := 15, ground := Ground.textOnly Departure.lateStores }, { on := 16, ground := Ground.textOnly Departure.lateStores }, { on := 17, ground := Ground.textOnly Departure.lateStoresUnsure }, { on := 18, ground := Ground.textOnly Departure.lateStoresUnsure }, { on := 19, ground := Ground.phase }, { on := 20, ground := Ground.textOnly Departure.lateStores }, { on := 21, ground := Ground.textOnly Departure.lateStoresUnsure }], guard := none }, { dst := none, op := Op.store 3 (Operand.tmp 67) (Operand.tmp 57), type := 0, pos := "law.go:68", after := #[{ on := 23, ground := Ground.data }, { on := 13, ground := Ground.data }, { on := 0, ground := Ground.phase }, { on := 1, ground := Ground.phase }, { on := 2, ground := Ground.phase }, { on := 3, ground := Ground.textOnly Departure.lateStores }, { on := 4, ground := Ground.textOnly Departure.lateStores }, { on := 5, ground := Ground.textOnly Departure.lateStores }, { on := 6, ground := Ground.phase }, { on := 7, ground := Ground.phase }, { on := 8, ground := Ground.phase }, { on := 9, ground := Ground.phase }, { on := 10, ground := Ground.phase }, { on := 11, ground := Ground.phase }, { on := 12, ground := Ground.phase }, { on := 13, ground := Ground.phase }, { on := 14, ground := Ground.textOnly Departure.lateStores }, { on := 15, ground := Ground.textOnly Departure.lateStores }, { on := 16, ground := Ground.textOnly Departure.lateStores }, { on := 17, ground := Ground.textOnly Departure.lateStoresUnsure }, { on := 18, ground := Ground.textOnly Departure.lateStoresUnsure }, { on := 19, ground := Ground.phase }, { on := 20, ground := Ground.textOnly Departure.lateStores }, { on := 21, ground := Ground.textOnly Departure.lateStoresUnsure }], guard := none }, { dst := some 68, op := Op.indexAddr 22 (Operand.tmp 48) (Operand.tmp 49), type := 0, pos := "law.go:68", after := #[{ on := 4, ground := Ground.data }, { on := 5, ground := Ground.data }, { on := 0, ground := Ground.phase }, { on := 1, ground := Ground.phase }, { on := 2, ground := Ground.phase }, { on := 3, ground := Ground.phase }, { on := 4, ground := Ground.phase }, { on := 5, ground := Ground.phase }, { on := 6, ground := Ground.phase }, { on := 7, ground := Ground.phase }, { on := 8, ground := Ground.phase }, { on := 9, ground := Ground.phase }, { on := 10, ground := Ground.phase }, { on := 11, ground := Ground.phase }, { on := 12, ground := Ground.phase }, { on := 13, ground := Ground.phase }, { on := 14, ground := Ground.phase }, { on := 15, ground := Ground.phase }, { on := 16, ground := Ground.phase }, { on := 17, ground := Ground.phase }, { on := 18, ground := Ground.phase }, { on := 19, ground := Ground.phase }, { on := 20, ground := Ground.phase }, { on := 21, ground := Ground.phase }, { on := 22, ground := Ground.phase }, { on := 23, ground := Ground.phase }, { on := 24, ground := Ground.phase }], guard := none }, { dst := some 69, op := Op.fieldAddr 28 (Operand.tmp 68) 2, type := 0, pos := "law.go:68", after := #[{ on := 25, ground := Ground.data }, { on := 0, ground := Ground.phase }, { on := 1, ground := Ground.phase }, { on := 2, ground := Ground.phase }, { on := 3, ground := Ground.phase }, { on := 4, ground := Ground.phase }, { on := 5, ground := Ground.phase }, { on := 6, ground := Ground.phase }, { on := 7, ground := Ground.phase }, { on := 8, ground := Ground.phase }, { on := 9, ground := Ground.phase }, { on := 10, ground := Ground.phase }, { on := 11, ground := Ground.phase }, { on := 12, ground := Ground.phase }, { on := 13, ground := Ground.phase }, { on := 14, ground := Ground.phase }, { on := 15, ground := Ground.phase }, { on := 16, ground := Ground.phase }, { on := 17, ground := Ground.phase }, { on := 18, ground := Ground.phase }, { on := 19, ground := Ground.phase }, { on := 20, ground := Ground.phase }, { on := 21, ground := Ground.phase }, { on := 22, ground := Ground.phase }, { on := 23, ground := Ground.phase }, { on := 24, ground := Ground.phase }], guard := none }, { dst := none, op := Op.store 3 (Operand.tmp 69) (Operand.tmp 65), type := 0, pos := "law.go:68", after := #[{ on := 26, ground := Ground.data }, { on := 21, ground := Ground.data }, { on := 24, ground := Ground.chain }, { on := 0, ground := Ground.phase }, { on := 1, ground := Ground.phase }, { on := 2, ground := Ground.phase }, { on := 3, ground := Ground.phase }, { on := 4, ground := Ground.phase }, { on := 5, ground := Ground.phase }, { on := 6, ground := Ground.phase }, { on := 7, ground := Ground.phase }, { on := 8, ground := Ground.phase }, { on := 9, ground := Ground.phase }, { on := 10, ground := Ground.phase }, { on := 11, ground := Ground.phase }, { on := 12, ground := Ground.phase }, { on := 13, ground := Ground.phase }, { on := 14, ground := Ground.phase }, { on := 15, ground := Ground.phase }, { on := 16, ground := Ground.phase }, { on := 17, ground := Ground.phase }, { on := 18, ground := Ground.phase }, { on := 19, ground := Ground.phase }, { on := 20, ground := Ground.phase }, { on := 21, ground := Ground.phase }, { on := 22, ground := Ground.phase }, { on := 23, ground := Ground.phase }, { on := 24, ground := Ground.phase }], guard := none }] true).wp Try.prog Q a0 W := by
  have hn : ([some 44, some 45, some 46, some 47, some 48, some 49, some 50, some 51, some 52, some 53, some 54, some 55, some 56, some 57, some 58, some 59, some 60, some 61, some 62, some 63, some 64, some 65, some 66, some 67, none, some 68, some 69, none] : List (Option Nat)).Pairwise (fun x y => x = none ∨ x ≠ y) := of_decide_eq_true (by kernel_rfl)
  have hkz : (k : Int) < (m : Int) := by omega
  refine wp_region_inv mixed (fun listed a w => Slots a0 [some 44, some 45, some 46, some 47, some 48, some 49, some 50, some 51, some 52, some 53, some 54, some 55, some 56, some 57, some 58, some 59, some 60, some 61, some 62, some 63, some 64, some 65, some 66, some 67, none, some 68, some 69, none] [some (.pointer (some ⟨ub, 0, none⟩)), some (.slice (some ⟨G, 0, none⟩) m cap), some (.int .i64 (k : Int)), some (.pointer (some ⟨ub, 0, none⟩)), some (.slice (some ⟨G, 0, none⟩) m cap), some (.int .i64 (k : Int)), some (.pointer (some ⟨ub, 0, none⟩)), some (.slice (some ⟨G, 0, none⟩) m cap), some (.int .i64 (k : Int)), some (.pointer (some ⟨G, k * 4, none⟩)), some (.pointer (some ⟨G, k * 4 + 1, none⟩)), some (.int .i64 x), some (.int .i64 dx), some (.int .i64 (x + dx)), some (.pointer (some ⟨ub, 0, none⟩)), some (.slice (some ⟨G, 0, none⟩) m cap), some (.int .i64 (k : Int)), some (.pointer (some ⟨G, k * 4, none⟩)), some (.pointer (some ⟨G, k * 4 + 2, none⟩)), some (.int .i64 y), some (.int .i64 dy), some (.int .i64 (y - dy)), some (.pointer (some ⟨G, k * 4, none⟩)), some (.pointer (some ⟨G, k * 4 + 1, none⟩)), none, some (.pointer (some ⟨G, k * 4, none⟩)), some (.pointer (some ⟨G, k * 4 + 2, none⟩)), none] listed a ∧ Below G W w ∧ (∀ i, w.frozen? ⟨G, i, none⟩ = false) ∧ Cells 4 seatC w G 0 (L.set k ⟨r, if listed.getD 24 false = true then x + dx else x, if listed.getD 27 false = true then y - dy else y, kk⟩)) (by kernel_rfl) ?_ ?_ ?_
  · exact ⟨Slots.start _ _ _ _, (Below.refl _ W).drew, hfz, by rw [start_false, start_false]; exact ⟨hC.1, hC.2⟩⟩
  · intro listed a w i' hsl hilt hl hd hcl ⟨hS, hb, hf, hT⟩
    have hsz : Hid (a.tmps.size = 173) := hS.size.trans hsz0
    have hls : i' < listed.size := by rw [hsl]; exact hilt
    have hX : Box w ub 26 #[.slice (some ⟨G, 0, none⟩) m cap, v1, v2, v3, v4] := hx.same (hb.block ub hu)
    have hgl : G < w.heap.size := Nat.lt_of_lt_of_le hG hb.size
    have HT := hid' hT
    have HF := hid' hf
    clear hT hf
    have hcase : i' = 0 ∨ i' = 1 ∨ i' = 2 ∨ i' = 3 ∨ i' = 4 ∨ i' = 5 ∨ i' = 6 ∨ i' = 7 ∨ i' = 8 ∨ i' = 9 ∨ i' = 10 ∨ i' = 11 ∨ i' = 12 ∨ i' = 13 ∨ i' = 14 ∨ i' = 15 ∨ i' = 16 ∨ i' = 17 ∨ i' = 18 ∨ i' = 19 ∨ i' = 20 ∨ i' = 21 ∨ i' = 22 ∨ i' = 23 ∨ i' = 24 ∨ i' = 25 ∨ i' = 26 ∨ i' = 27 := by
      have : i' < 28 := hilt
      omega
    rcases hcase with rfl | rfl | rfl | rfl | rfl | rfl | rfl | rfl | rfl | rfl | rfl | rfl | rfl | rfl | rfl | rfl | rfl | rfl | rfl | rfl | rfl | rfl | rfl | rfl | rfl | rfl | rfl | rfl
    ·
      refine wpOp_step rfl ?_
      intro K hK
      have q10 : a.tmps[10]? = some (.pointer (some ⟨ub, 0, none⟩)) := (hS.keep 10 (of_decide_eq_true (by kernel_rfl))).trans h10
      have ml := hX.lt
      have m0 := hX.cell 0 _ rfl
      go_simp
      exact hK _ _ ⟨hS.put hn 0 44 _ rfl (by rw [hsz0]; omega) (fun u h => by injection h with h; injection h with h; exact h.symm), hb, HF.out, by rw [show (listed.setIfInBounds 0 true).getD 24 false = listed.getD 24 false by rw [getD_set hls, if_neg (by omega)]]; rw [show (listed.setIfInBounds 0 true).getD 27 false = listed.getD 27 false by rw [getD_set hls, if_neg (by omega)]]; exact HT.out⟩
    ·
      refine wpOp_step rfl ?_
      intro K hK
      have q44 : a.tmps[44]? = some (.pointer (some ⟨ub, 0, none⟩)) := hS.val 0 44 _ (hd 0 (of_decide_eq_true (by kernel_rfl))) rfl rfl
      have ml := hX.lt
      have m0 := hX.cell 0 _ rfl
      go_simp
      exact hK _ _ ⟨hS.put hn 1 45 _ rfl (by rw [hsz0]; omega) (fun u h => by injection h with h; injection h with h; exact h.symm), hb, HF.out, by rw [show (listed.setIfInBounds 1 true).getD 24 false = listed.getD 24 false by rw [getD_set hls, if_neg (by omega)]]; rw [show (listed.setIfInBounds 1 true).getD 27 false = listed.getD 27 false by rw [getD_set hls, if_neg (by omega)]]; exact HT.out⟩
    ·
      refine wpOp_step rfl ?_
      intro K hK
      have q13 : a.tmps[13]? = some (.int .i64 (k : Int)) := (hS.keep 13 (of_decide_eq_true (by kernel_rfl))).trans h13
      go_simp
      exact hK _ _ ⟨hS.put hn 2 46 _ rfl (by rw [hsz0]; omega) (fun u h => by injection h with h; injection h with h; exact h.symm), hb, HF.out, by rw [show (listed.setIfInBounds 2 true).getD 24 false = listed.getD 24 false by rw [getD_set hls, if_neg (by omega)]]; rw [show (listed.setIfInBounds 2 true).getD 27 false = listed.getD 27 false by rw [getD_set hls, if_neg (by omega)]]; exact HT.out⟩
    ·
      refine wpOp_step rfl ?_
      intro K hK
      have q10 : a.tmps[10]? = some (.pointer (some ⟨ub, 0, none⟩)) := (hS.keep 10 (of_decide_eq_true (by kernel_rfl))).trans h10
      have ml := hX.lt
      have m0 := hX.cell 0 _ rfl
      go_simp
      exact hK _ _ ⟨hS.put hn 3 47 _ rfl (by rw [hsz0]; omega) (fun u h => by injection h with h; injection h with h; exact h.symm), hb, HF.out, by rw [show (listed.setIfInBounds 3 true).getD 24 false = listed.getD 24 false by rw [getD_set hls, if_neg (by omega)]]; rw [show (listed.setIfInBounds 3 true).getD 27 false = listed.getD 27 false by rw [getD_set hls, if_neg (by omega)]]; exact HT.out⟩
    ·
      refine wpOp_step rfl ?_
      intro K hK
      have q47 : a.tmps[47]? = some (.pointer (some ⟨ub, 0, none⟩)) := hS.val 3 47 _ (hd 3 (of_decide_eq_true (by kernel_rfl))) rfl rfl
      have ml := hX.lt
      have m0 := hX.cell 0 _ rfl
      go_simp
      exact hK _ _ ⟨hS.put hn 4 48 _ rfl (by rw [hsz0]; omega) (fun u h => by injection h with h; injection h with h; exact h.symm), hb, HF.out, by rw [show (listed.setIfInBounds 4 true).getD 24 false = listed.getD 24 false by rw [getD_set hls, if_neg (by omega)]]; rw [show (listed.setIfInBounds 4 true).getD 27 false = listed.getD 27 false by rw [getD_set hls, if_neg (by omega)]]; exact HT.out⟩
    ·
      refine wpOp_step rfl ?_
      intro K hK
      have q13 : a.tmps[13]? = some (.int .i64 (k : Int)) := (hS.keep 13 (of_decide_eq_true (by kernel_rfl))).trans h13
      go_simp
      exact hK _ _ ⟨hS.put hn 5 49 _ rfl (by rw [hsz0]; omega) (fun u h => by injection h with h; injection h with h; exact h.symm), hb, HF.out, by rw [show (listed.setIfInBounds 5 true).getD 24 false = listed.getD 24 false by rw [getD_set hls, if_neg (by omega)]]; rw [show (listed.setIfInBounds 5 true).getD 27 false = listed.getD 27 false by rw [getD_set hls, if_neg (by omega)]]; exact HT.out⟩
    ·
      refine wpOp_step rfl ?_
      intro K hK
      have q10 : a.tmps[10]? = some (.pointer (some ⟨ub, 0, none⟩)) := (hS.keep 10 (of_decide_eq_true (by kernel_rfl))).trans h10
      have ml := hX.lt
      have m0 := hX.cell 0 _ rfl
      go_simp
      exact hK _ _ ⟨hS.put hn 6 50 _ rfl (by rw [hsz0]; omega) (fun u h => by injection h with h; injection h with h; exact h.symm), hb, HF.out, by rw [show (listed.setIfInBounds 6 true).getD 24 false = listed.getD 24 false by rw [getD_set hls, if_neg (by omega)]]; rw [show (listed.setIfInBounds 6 true).getD 27 false = listed.getD 27 false by rw [getD_set hls, if_neg (by omega)]]; exact HT.out⟩
    ·
      refine wpOp_step rfl ?_
      intro K hK
      have q50 : a.tmps[50]? = some (.pointer (some ⟨ub, 0, none⟩)) := hS.val 6 50 _ (hd 6 (of_decide_eq_true (by kernel_rfl))) rfl rfl
      have ml := hX.lt
      have m0 := hX.cell 0 _ rfl
      go_simp
      exact hK _ _ ⟨hS.put hn 7 51 _ rfl (by rw [hsz0]; omega) (fun u h => by injection h with h; injection h with h; exact h.symm), hb, HF.out, by rw [show (listed.setIfInBounds 7 true).getD 24 false = listed.getD 24 false by rw [getD_set hls, if_neg (by omega)]]; rw [show (listed.setIfInBounds 7 true).getD 27 false = listed.getD 27 false by rw [getD_set hls, if_neg (by omega)]]; exact HT.out⟩
    ·
      refine wpOp_step rfl ?_
      intro K hK
      have q13 : a.tmps[13]? = some (.int .i64 (k : Int)) := (hS.keep 13 (of_decide_eq_true (by kernel_rfl))).trans h13
      go_simp
      exact hK _ _ ⟨hS.put hn 8 52 _ rfl (by rw [hsz0]; omega) (fun u h => by injection h with h; injection h with h; exact h.symm), hb, HF.out, by rw [show (listed.setIfInBounds 8 true).getD 24 false = listed.getD 24 false by rw [getD_set hls, if_neg (by omega)]]; rw [show (listed.setIfInBounds 8 true).getD 27 false = listed.getD 27 false by rw [getD_set hls, if_neg (by omega)]]; exact HT.out⟩
    ·
      refine wpOp_step rfl ?_
      intro K hK
      have q51 : a.tmps[51]? = some (.slice (some ⟨G, 0, none⟩) m cap) := hS.val 7 51 _ (hd 7 (of_decide_eq_true (by kernel_rfl))) rfl rfl
      have q52 : a.tmps[52]? = some (.int .i64 (k : Int)) := hS.val 8 52 _ (hd 8 (of_decide_eq_true (by kernel_rfl))) rfl rfl
      go_simp
      exact hK _ _ ⟨hS.put hn 9 53 _ rfl (by rw [hsz0]; omega) (fun u h => by injection h with h; injection h with h; exact h.symm), hb, HF.out, by rw [show (listed.setIfInBounds 9 true).getD 24 false = listed.getD 24 false by rw [getD_set hls, if_neg (by omega)]]; rw [show (listed.setIfInBounds 9 true).getD 27 false = listed.getD 27 false by rw [getD_set hls, if_neg (by omega)]]; exact HT.out⟩
    ·
      refine wpOp_step rfl ?_
      intro K hK
      have q53 : a.tmps[53]? = some (.pointer (some ⟨G, k * 4, none⟩)) := hS.val 9 53 _ (hd 9 (of_decide_eq_true (by kernel_rfl))) rfl rfl
      go_simp
      exact hK _ _ ⟨hS.put hn 10 54 _ rfl (by rw [hsz0]; omega) (fun u h => by injection h with h; injection h with h; exact h.symm), hb, HF.out, by rw [show (listed.setIfInBounds 10 true).getD 24 false = listed.getD 24 false by rw [getD_set hls, if_neg (by omega)]]; rw [show (listed.setIfInBounds 10 true).getD 27 false = listed.getD 27 false by rw [getD_set hls, if_neg (by omega)]]; exact HT.out⟩
    ·
      refine wpOp_step rfl ?_
      intro K hK
      have q54 : a.tmps[54]? = some (.pointer (some ⟨G, k * 4 + 1, none⟩)) := hS.val 10 54 _ (hd 10 (of_decide_eq_true (by kernel_rfl))) rfl rfl
      have y13 : listed.getD 13 false = false := by
        cases h : listed.getD 13 false with
        | false => rfl
        | true => have := hcl 13 11 h (of_decide_eq_true (by kernel_rfl)); rw [hl] at this; cases this
      have y24 : listed.getD 24 false = false := by
        cases h : listed.getD 24 false with
        | false => rfl
        | true => have := hcl 24 13 h (of_decide_eq_true (by kernel_rfl)); rw [y13] at this; cases this
      have hT := HT.out
      rw [y24, if_neg (show ¬ (false = true) by decide)] at hT
      have m0 := (cells_seat hT hk).1
      clear hT
      go_simp
      exact hK _ _ ⟨hS.put hn 11 55 _ rfl (by rw [hsz0]; omega) (fun u h => by injection h with h; injection h with h; exact h.symm), hb, HF.out, by rw [show (listed.setIfInBounds 11 true).getD 24 false = listed.getD 24 false by rw [getD_set hls, if_neg (by omega)]]; rw [show (listed.setIfInBounds 11 true).getD 27 false = listed.getD 27 false by rw [getD_set hls, if_neg (by omega)]]; exact HT.out⟩
    ·
      refine wpOp_step rfl ?_
      intro K hK
      have q11 : a.tmps[11]? = some (.int .i64 dx) := (hS.keep 11 (of_decide_eq_true (by kernel_rfl))).trans h11
      go_simp
      exact hK _ _ ⟨hS.put hn 12 56 _ rfl (by rw [hsz0]; omega) (fun u h => by injection h with h; injection h with h; exact h.symm), hb, HF.out, by rw [show (listed.setIfInBounds 12 true).getD 24 false = listed.getD 24 false by rw [getD_set hls, if_neg (by omega)]]; rw [show (listed.setIfInBounds 12 true).getD 27 false = listed.getD 27 false by rw [getD_set hls, if_neg (by omega)]]; exact HT.out⟩
    ·
      refine wpOp_step rfl ?_
      intro K hK
      have q55 : a.tmps[55]? = some (.int .i64 x) := hS.val 11 55 _ (hd 11 (of_decide_eq_true (by kernel_rfl))) rfl rfl
      have q56 : a.tmps[56]? = some (.int .i64 dx) := hS.val 12 56 _ (hd 12 (of_decide_eq_true (by kernel_rfl))) rfl rfl
      go_simp
      exact hK _ _ ⟨hS.put hn 13 57 _ rfl (by rw [hsz0]; omega) (fun u h => by injection h with h; injection h with h; exact h.symm), hb, HF.out, by rw [show (listed.setIfInBounds 13 true).getD 24 false = listed.getD 24 false by rw [getD_set hls, if_neg (by omega)]]; rw [show (listed.setIfInBounds 13 true).getD 27 false = listed.getD 27 false by rw [getD_set hls, if_neg (by omega)]]; exact HT.out⟩
    ·
      refine wpOp_step rfl ?_
      intro K hK
      have q10 : a.tmps[10]? = some (.pointer (some ⟨ub, 0, none⟩)) := (hS.keep 10 (of_decide_eq_true (by kernel_rfl))).trans h10
      have ml := hX.lt
      have m0 := hX.cell 0 _ rfl
      go_simp
      exact hK _ _ ⟨hS.put hn 14 58 _ rfl (by rw [hsz0]; omega) (fun u h => by injection h with h; injection h with h; exact h.symm), hb, HF.out, by rw [show (listed.setIfInBounds 14 true).getD 24 false = listed.getD 24 false by rw [getD_set hls, if_neg (by omega)]]; rw [show (listed.setIfInBounds 14 true).getD 27 false = listed.getD 27 false by rw [getD_set hls, if_neg (by omega)]]; exact HT.out⟩
    ·
      refine wpOp_step rfl ?_
      intro K hK
      have q58 : a.tmps[58]? = some (.pointer (some ⟨ub, 0, none⟩)) := hS.val 14 58 _ (hd 14 (of_decide_eq_true (by kernel_rfl))) rfl rfl
      have ml := hX.lt
      have m0 := hX.cell 0 _ rfl
      go_simp
      exact hK _ _ ⟨hS.put hn 15 59 _ rfl (by rw [hsz0]; omega) (fun u h => by injection h with h; injection h with h; exact h.symm), hb, HF.out, by rw [show (listed.setIfInBounds 15 true).getD 24 false = listed.getD 24 false by rw [getD_set hls, if_neg (by omega)]]; rw [show (listed.setIfInBounds 15 true).getD 27 false = listed.getD 27 false by rw [getD_set hls, if_neg (by omega)]]; exact HT.out⟩
    ·
      refine wpOp_step rfl ?_
      intro K hK
      have q13 : a.tmps[13]? = some (.int .i64 (k : Int)) := (hS.keep 13 (of_decide_eq_true (by kernel_rfl))).trans h13
      go_simp
      exact hK _ _ ⟨hS.put hn 16 60 _ rfl (by rw [hsz0]; omega) (fun u h => by injection h with h; injection h with h; exact h.symm), hb, HF.out, by rw [show (listed.setIfInBounds 16 true).getD 24 false = listed.getD 24 false by rw [getD_set hls, if_neg (by omega)]]; rw [show (listed.setIfInBounds 16 true).getD 27 false = listed.getD 27 false by rw [getD_set hls, if_neg (by omega)]]; exact HT.out⟩
    ·
      refine wpOp_step rfl ?_
      intro K hK
      have q59 : a.tmps[59]? = some (.slice (some ⟨G, 0, none⟩) m cap) := hS.val 15 59 _ (hd 15 (of_decide_eq_true (by kernel_rfl))) rfl rfl
      have q60 : a.tmps[60]? = some (.int .i64 (k : Int)) := hS.val 16 60 _ (hd 16 (of_decide_eq_true (by kernel_rfl))) rfl rfl
      go_simp
      exact hK _ _ ⟨hS.put hn 17 61 _ rfl (by rw [hsz0]; omega) (fun u h => by injection h with h; injection h with h; exact h.symm), hb, HF.out, by rw [show (listed.setIfInBounds 17 true).getD 24 false = listed.getD 24 false by rw [getD_set hls, if_neg (by omega)]]; rw [show (listed.setIfInBounds 17 true).getD 27 false = listed.getD 27 false by rw [getD_set hls, if_neg (by omega)]]; exact HT.out⟩
    ·
      refine wpOp_step rfl ?_
      intro K hK
      have q61 : a.tmps[61]? = some (.pointer (some ⟨G, k * 4, none⟩)) := hS.val 17 61 _ (hd 17 (of_decide_eq_true (by kernel_rfl))) rfl rfl
      go_simp
      exact hK _ _ ⟨hS.put hn 18 62 _ rfl (by rw [hsz0]; omega) (fun u h => by injection h with h; injection h with h; exact h.symm), hb, HF.out, by rw [show (listed.setIfInBounds 18 true).getD 24 false = listed.getD 24 false by rw [getD_set hls, if_neg (by omega)]]; rw [show (listed.setIfInBounds 18 true).getD 27 false = listed.getD 27 false by rw [getD_set hls, if_neg (by omega)]]; exact HT.out⟩
    ·
      refine wpOp_step rfl ?_
      intro K hK
      have q62 : a.tmps[62]? = some (.pointer (some ⟨G, k * 4 + 2, none⟩)) := hS.val 18 62 _ (hd 18 (of_decide_eq_true (by kernel_rfl))) rfl rfl
      have y21 : listed.getD 21 false = false := by
        cases h : listed.getD 21 false with
        | false => rfl
        | true => have := hcl 21 19 h (of_decide_eq_true (by kernel_rfl)); rw [hl] at this; cases this
      have y27 : listed.getD 27 false = false := by
        cases h : listed.getD 27 false with
        | false => rfl
        | true => have := hcl 27 21 h (of_decide_eq_true (by kernel_rfl)); rw [y21] at this; cases this
      have hT := HT.out
      rw [y27, if_neg (show ¬ (false = true) by decide)] at hT
      have m0 := (cells_seat hT hk).2
      clear hT
      go_simp
      exact hK _ _ ⟨hS.put hn 19 63 _ rfl (by rw [hsz0]; omega) (fun u h => by injection h with h; injection h with h; exact h.symm), hb, HF.out, by rw [show (listed.setIfInBounds 19 true).getD 24 false = listed.getD 24 false by rw [getD_set hls, if_neg (by omega)]]; rw [show (listed.setIfInBounds 19 true).getD 27 false = listed.getD 27 false by rw [getD_set hls, if_neg (by omega)]]; exact HT.out⟩
    ·
      refine wpOp_step rfl ?_
      intro K hK
      have q12 : a.tmps[12]? = some (.int .i64 dy) := (hS.keep 12 (of_decide_eq_true (by kernel_rfl))).trans h12
      go_simp
      exact hK _ _ ⟨hS.put hn 20 64 _ rfl (by rw [hsz0]; omega) (fun u h => by injection h with h; injection h with h; exact h.symm), hb, HF.out, by rw [show (listed.setIfInBounds 20 true).getD 24 false = listed.getD 24 false by rw [getD_set hls, if_neg (by omega)]]; rw [show (listed.setIfInBounds 20 true).getD 27 false = listed.getD 27 false by rw [getD_set hls, if_neg (by omega)]]; exact HT.out⟩
    ·
      refine wpOp_step rfl ?_
      intro K hK
      have q63 : a.tmps[63]? = some (.int .i64 y) := hS.val 19 63 _ (hd 19 (of_decide_eq_true (by kernel_rfl))) rfl rfl
      have q64 : a.tmps[64]? = some (.int .i64 dy) := hS.val 20 64 _ (hd 20 (of_decide_eq_true (by kernel_rfl))) rfl rfl
      go_simp
      exact hK _ _ ⟨hS.put hn 21 65 _ rfl (by rw [hsz0]; omega) (fun u h => by injection h with h; injection h with h; exact h.symm), hb, HF.out, by rw [show (listed.setIfInBounds 21 true).getD 24 false = listed.getD 24 false by rw [getD_set hls, if_neg (by omega)]]; rw [show (listed.setIfInBounds 21 true).getD 27 false = listed.getD 27 false by rw [getD_set hls, if_neg (by omega)]]; exact HT.out⟩
    ·
      refine wpOp_step rfl ?_
      intro K hK
      have q45 : a.tmps[45]? = some (.slice (some ⟨G, 0, none⟩) m cap) := hS.val 1 45 _ (hd 1 (of_decide_eq_true (by kernel_rfl))) rfl rfl
      have q46 : a.tmps[46]? = some (.int .i64 (k : Int)) := hS.val 2 46 _ (hd 2 (of_decide_eq_true (by kernel_rfl))) rfl rfl
      go_simp
      exact hK _ _ ⟨hS.put hn 22 66 _ rfl (by rw [hsz0]; omega) (fun u h => by injection h with h; injection h with h; exact h.symm), hb, HF.out, by rw [show (listed.setIfInBounds 22 true).getD 24 false = listed.getD 24 false by rw [getD_set hls, if_neg (by omega)]]; rw [show (listed.setIfInBounds 22 true).getD 27 false = listed.getD 27 false by rw [getD_set hls, if_neg (by omega)]]; exact HT.out⟩
    ·
      refine wpOp_step rfl ?_
      intro K hK
      have q66 : a.tmps[66]? = some (.pointer (some ⟨G, k * 4, none⟩)) := hS.val 22 66 _ (hd 22 (of_decide_eq_true (by kernel_rfl))) rfl rfl
      go_simp
      exact hK _ _ ⟨hS.put hn 23 67 _ rfl (by rw [hsz0]; omega) (fun u h => by injection h with h; injection h with h; exact h.symm), hb, HF.out, by rw [show (listed.setIfInBounds 23 true).getD 24 false = listed.getD 24 false by rw [getD_set hls, if_neg (by omega)]]; rw [show (listed.setIfInBounds 23 true).getD 27 false = listed.getD 27 false by rw [getD_set hls, if_neg (by omega)]]; exact HT.out⟩
    ·
      refine wpOp_step rfl ?_
      intro K hK
      have q67 : a.tmps[67]? = some (.pointer (some ⟨G, k * 4 + 1, none⟩)) := hS.val 23 67 _ (hd 23 (of_decide_eq_true (by kernel_rfl))) rfl rfl
      have q57 : a.tmps[57]? = some (.int .i64 (x + dx)) := hS.val 13 57 _ (hd 13 (of_decide_eq_true (by kernel_rfl))) rfl rfl
      have hT := HT.out
      rw [hl, if_neg (show ¬ (false = true) by decide)] at hT
      have m0 := (cells_seat hT hk).1
      have f0 := HF.out (k * 4 + 1)
      have HT2 := hid' hT
      clear hT
      go_simp
      refine hK _ _ ⟨hS.skip 24 rfl, Below.setCell hb (Nat.le_refl _) _, fun i => by simpa using HF.out i, ?_⟩
      rw [show (listed.setIfInBounds 24 true).getD 24 false = true by rw [getD_set hls, if_pos rfl], if_pos rfl]
      rw [show (listed.setIfInBounds 24 true).getD 27 false = listed.getD 27 false by rw [getD_set hls, if_neg (by omega)]];
      exact cells_at HT2.out hk 1 (by omega) _ (fun j hj => by
        have : j = 0 ∨ j = 1 ∨ j = 2 ∨ j = 3 := by omega
        rcases this with rfl | rfl | rfl | rfl <;> rfl)
    ·
      refine wpOp_step rfl ?_
      intro K hK
      have q48 : a.tmps[48]? = some (.slice (some ⟨G, 0, none⟩) m cap) := hS.val 4 48 _ (hd 4 (of_decide_eq_true (by kernel_rfl))) rfl rfl
      have q49 : a.tmps[49]? = some (.int .i64 (k : Int)) := hS.val 5 49 _ (hd 5 (of_decide_eq_true (by kernel_rfl))) rfl rfl
      go_simp
      exact hK _ _ ⟨hS.put hn 25 68 _ rfl (by rw [hsz0]; omega) (fun u h => by injection h with h; injection h with h; exact h.symm), hb, HF.out, by rw [show (listed.setIfInBounds 25 true).getD 24 false = listed.getD 24 false by rw [getD_set hls, if_neg (by omega)]]; rw [show (listed.setIfInBounds 25 true).getD 27 false = listed.getD 27 false by rw [getD_set hls, if_neg (by omega)]]; exact HT.out⟩
    ·
      refine wpOp_step rfl ?_
      intro K hK
      have q68 : a.tmps[68]? = some (.pointer (some ⟨G, k * 4, none⟩)) := hS.val 25 68 _ (hd 25 (of_decide_eq_true (by kernel_rfl))) rfl rfl
      go_simp
      exact hK _ _ ⟨hS.put hn 26 69 _ rfl (by rw [hsz0]; omega) (fun u h => by injection h with h; injection h with h; exact h.symm), hb, HF.out, by rw [show (listed.setIfInBounds 26 true).getD 24 false = listed.getD 24 false by rw [getD_set hls, if_neg (by omega)]]; rw [show (listed.setIfInBounds 26 true).getD 27 false = listed.getD 27 false by rw [getD_set hls, if_neg (by omega)]]; exact HT.out⟩
    ·
      refine wpOp_step rfl ?_
      intro K hK
      have q69 : a.tmps[69]? = some (.pointer (some ⟨G, k * 4 + 2, none⟩)) := hS.val 26 69 _ (hd 26 (of_decide_eq_true (by kernel_rfl))) rfl rfl
      have q65 : a.tmps[65]? = some (.int .i64 (y - dy)) := hS.val 21 65 _ (hd 21 (of_decide_eq_true (by kernel_rfl))) rfl rfl
      have hT := HT.out
      rw [hl, if_neg (show ¬ (false = true) by decide)] at hT
      have HT2 := hid' hT
      have m0 := (cells_seat hT hk).2
      have f0 := HF.out (k * 4 + 2)
      clear hT
      go_simp
      refine hK _ _ ⟨hS.skip 27 rfl, Below.setCell hb (Nat.le_refl _) _, fun i => by simpa using HF.out i, ?_⟩
      rw [show (listed.setIfInBounds 27 true).getD 27 false = true by rw [getD_set hls, if_pos rfl]]
      rw [show (if true = true then y - dy else y) = y - dy from rfl]
      rw [show (listed.setIfInBounds 27 true).getD 24 false = listed.getD 24 false by rw [getD_set hls, if_neg (by omega)]];
      exact cells_at HT2.out hk 2 (by omega) _ (fun j hj => by
        have : j = 0 ∨ j = 1 ∨ j = 2 ∨ j = 3 := by omega
        rcases this with rfl | rfl | rfl | rfl <;> rfl)
  · intro listed a w hall ⟨hS, hb, hf, hT⟩
    rw [hall 24 (by decide), hall 27 (by decide)] at hT
    have hf2 := hS.frame [(44, .pointer (some ⟨ub, 0, none⟩)), (45, .slice (some ⟨G, 0, none⟩) m cap), (46, .int .i64 (k : Int)), (47, .pointer (some ⟨ub, 0, none⟩)), (48, .slice (some ⟨G, 0, none⟩) m cap), (49, .int .i64 (k : Int)), (50, .pointer (some ⟨ub, 0, none⟩)), (51, .slice (some ⟨G, 0, none⟩) m cap), (52, .int .i64 (k : Int)), (53, .pointer (some ⟨G, k * 4, none⟩)), (54, .pointer (some ⟨G, k * 4 + 1, none⟩)), (55, .int .i64 x), (56, .int .i64 dx), (57, .int .i64 (x + dx)), (58, .pointer (some ⟨ub, 0, none⟩)), (59, .slice (some ⟨G, 0, none⟩) m cap), (60, .int .i64 (k : Int)), (61, .pointer (some ⟨G, k * 4, none⟩)), (62, .pointer (some ⟨G, k * 4 + 2, none⟩)), (63, .int .i64 y), (64, .int .i64 dy), (65, .int .i64 (y - dy)), (66, .pointer (some ⟨G, k * 4, none⟩)), (67, .pointer (some ⟨G, k * 4 + 1, none⟩)), (68, .pointer (some ⟨G, k * 4, none⟩)), (69, .pointer (some ⟨G, k * 4 + 2, none⟩))] rfl (of_decide_eq_true (by kernel_rfl)) (by
      simp only [List.map_cons, List.map_nil, List.all_cons, List.all_nil, hsz0]; rfl) (by
      intro p hp
      simp only [List.mem_cons, List.not_mem_nil, or_false] at hp
      rcases hp with rfl | rfl | rfl | rfl | rfl | rfl | rfl | rfl | rfl | rfl | rfl | rfl | rfl | rfl | rfl | rfl | rfl | rfl | rfl | rfl | rfl | rfl | rfl | rfl | rfl | rfl
      · exact hS.val 0 44 _ (hall 0 (by decide)) rfl rfl
      · exact hS.val 1 45 _ (hall 1 (by decide)) rfl rfl
      · exact hS.val 2 46 _ (hall 2 (by decide)) rfl rfl
      · exact hS.val 3 47 _ (hall 3 (by decide)) rfl rfl
      · exact hS.val 4 48 _ (hall 4 (by decide)) rfl rfl
      · exact hS.val 5 49 _ (hall 5 (by decide)) rfl rfl
      · exact hS.val 6 50 _ (hall 6 (by decide)) rfl rfl
      · exact hS.val 7 51 _ (hall 7 (by decide)) rfl rfl
      · exact hS.val 8 52 _ (hall 8 (by decide)) rfl rfl
      · exact hS.val 9 53 _ (hall 9 (by decide)) rfl rfl
      · exact hS.val 10 54 _ (hall 10 (by decide)) rfl rfl
      · exact hS.val 11 55 _ (hall 11 (by decide)) rfl rfl
      · exact hS.val 12 56 _ (hall 12 (by decide)) rfl rfl
      · exact hS.val 13 57 _ (hall 13 (by decide)) rfl rfl
      · exact hS.val 14 58 _ (hall 14 (by decide)) rfl rfl
      · exact hS.val 15 59 _ (hall 15 (by decide)) rfl rfl
      · exact hS.val 16 60 _ (hall 16 (by decide)) rfl rfl
      · exact hS.val 17 61 _ (hall 17 (by decide)) rfl rfl
      · exact hS.val 18 62 _ (hall 18 (by decide)) rfl rfl
      · exact hS.val 19 63 _ (hall 19 (by decide)) rfl rfl
      · exact hS.val 20 64 _ (hall 20 (by decide)) rfl rfl
      · exact hS.val 21 65 _ (hall 21 (by decide)) rfl rfl
      · exact hS.val 22 66 _ (hall 22 (by decide)) rfl rfl
      · exact hS.val 23 67 _ (hall 23 (by decide)) rfl rfl
      · exact hS.val 25 68 _ (hall 25 (by decide)) rfl rfl
      · exact hS.val 26 69 _ (hall 26 (by decide)) rfl rfl)
    rw [hf2]
    exact hQ w hb hf hT
end Go.Proofs.Ytgpkdjhllekihaa.Geo
