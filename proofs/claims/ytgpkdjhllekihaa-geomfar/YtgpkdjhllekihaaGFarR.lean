/- GeomFar's first statement, which draws its order, by an invariant. -/
import Derived.Test.YtgpkdjhllekihaaGTold
namespace Go.Proofs.Ytgpkdjhllekihaa.Geo
set_option linter.unusedVariables false
set_option maxRecDepth 100000
open Go.RowKit Go.Shelf
open Go.Proofs.Ytgpkdjhllekihaa.Ven (Seat Pole Ven seatV Box mixed below_alloc Slots wp_region_inv getD_set start_false putAll Slots.start slot_of)

def zeroS : Array Value := #[.int .i64 0, .int .i64 0, .int .i64 0, .int .i64 0]
/-- Three new blocks, each with what it holds once it is stored into. -/
def Three (W w : World) (t : Array Value) (al st : Nat → Bool) (X : Nat → Array Value) : Prop :=
  ∃ g : Nat → Nat, (∀ j, j < 3 → al j = true → t[7 + j]? = some (.pointer (some ⟨g j, 0, none⟩)) ∧ W.heap.size ≤ g j ∧ Box w (g j) 28 (if st j = true then X j else zeroS)) ∧ ∀ i j, i < 3 → j < 3 → i ≠ j → al i = true → al j = true → g i ≠ g j
theorem Three.next {W w w' : World} {t : Array Value} {al st : Nat → Bool} {X : Nat → Array Value} (h : Three W w t al st X) (hb : Below w.heap.size w w') : Three W w' t al st X := by
  obtain ⟨g, h1, h2⟩ := h
  exact ⟨g, fun j hj ha => ⟨(h1 j hj ha).1, (h1 j hj ha).2.1, (h1 j hj ha).2.2.next hb⟩, h2⟩
theorem Three.congr {W w : World} {t t' : Array Value} {al st al' st' : Nat → Bool} {X : Nat → Array Value} (h : Three W w t al st X) (ht : ∀ j, j < 3 → t'[7 + j]? = t[7 + j]?) (ha : ∀ j, j < 3 → al' j = al j) (hs : ∀ j, j < 3 → st' j = st j) : Three W w t' al' st' X := by
  obtain ⟨g, h1, h2⟩ := h
  refine ⟨g, fun j hj h' => ?_, fun i j hi hj hij h1' h2' => h2 i j hi hj hij (by rw [← ha i hi]; exact h1') (by rw [← ha j hj]; exact h2')⟩
  rw [ht j hj, hs j hj]
  exact h1 j hj (by rw [← ha j hj]; exact h')
theorem Three.alloc {W w : World} {t : Array Value} {al st : Nat → Bool} {X : Nat → Array Value} (h : Three W w t al st X) (hw : W.heap.size ≤ w.heap.size) (k : Nat) (hk : k < 3) (hal : al k = false) (hst : st k = false) (hts : 7 + k < t.size) :
    Three W (w.alloc (.cells zeroS 28)) (t.setIfInBounds (7 + k) (.pointer (some ⟨w.heap.size, 0, none⟩))) (fun j => if j = k then true else al j) st X := by
  obtain ⟨g, h1, h2⟩ := h
  have hb := below_alloc w (.cells zeroS 28)
  have hlt : ∀ j, j < 3 → al j = true → g j < w.heap.size := fun j hj ha => (h1 j hj ha).2.2.lt
  refine ⟨fun j => if j = k then w.heap.size else g j, fun j hj ha => ?_, fun i j hi hj hij h1' h2' => ?_⟩
  · by_cases e : j = k
    · subst e
      simp only [if_true]
      refine ⟨by simp [hts], hw, ?_⟩
      rw [hst]
      exact Box.fresh w _ _
    · simp only [if_neg e] at ha ⊢
      obtain ⟨a1, a2, a3⟩ := h1 j hj ha
      refine ⟨?_, a2, a3.next hb⟩
      rw [Array.getElem?_setIfInBounds, if_neg (by omega)]; exact a1
  · by_cases ei : i = k
    · subst ei
      have ej : ¬ j = i := fun e => hij e.symm
      simp only [if_true, if_neg ej] at h2' ⊢
      have := hlt j hj h2'; omega
    · by_cases ej : j = k
      · subst ej
        simp only [if_true, if_neg ei] at h1' ⊢
        have := hlt i hi h1'; omega
      · simp only [if_neg ei, if_neg ej] at h1' h2' ⊢
        exact h2 i j hi hj hij h1' h2'
/-- What a store finds. -/
theorem Three.find {W w : World} {t : Array Value} {al st : Nat → Bool} {X : Nat → Array Value} (h : Three W w t al st X) (k : Nat) (hk : k < 3) (hal : al k = true) (hst : st k = false) : ∃ b, t[7 + k]? = some (.pointer (some ⟨b, 0, none⟩)) ∧ W.heap.size ≤ b ∧ Box w b 28 zeroS := by
  obtain ⟨g, h1, h2⟩ := h
  obtain ⟨a1, a2, a3⟩ := h1 k hk hal
  rw [hst] at a3
  exact ⟨g k, a1, a2, a3⟩
theorem Three.store {W w w' : World} {t : Array Value} {al st : Nat → Bool} {X : Nat → Array Value} (h : Three W w t al st X) (k : Nat) (hk : k < 3) (hal : al k = true) (b : Nat) (hb : t[7 + k]? = some (.pointer (some ⟨b, 0, none⟩))) (hw : Box w' b 28 (X k)) (ho : ∀ q, q ≠ b → w'.heap[q]? = w.heap[q]?) :
    Three W w' t al (fun j => if j = k then true else st j) X := by
  obtain ⟨g, h1, h2⟩ := h
  have hgk : g k = b := by
    have := (h1 k hk hal).1
    rw [hb] at this
    injection this with this; injection this with this; injection this with this; injection this with this; exact this.symm
  refine ⟨g, fun j hj ha => ?_, h2⟩
  obtain ⟨a1, a2, a3⟩ := h1 j hj ha
  by_cases e : j = k
  · subst e
    simp only [if_true]
    exact ⟨a1, a2, by rw [hgk]; exact hw⟩
  · simp only [if_neg e]
    exact ⟨a1, a2, a3.same (ho _ (by have := h2 j k hj hk e ha hal; rw [hgk] at this; exact this))⟩
theorem box_stored {w : World} {b : Nat} {r x y k : Int} {cs : Array Value} (h : Box w b 28 cs) (hs : cs.size = 4) : Box ((((w.setCell ⟨b, 0, none⟩ (.int .i64 r)).setCell ⟨b, 1, none⟩ (.int .i64 x)).setCell ⟨b, 2, none⟩ (.int .i64 y)).setCell ⟨b, 3, none⟩ (.int .i64 k)) b 28 #[.int .i64 r, .int .i64 x, .int .i64 y, .int .i64 k] := by
  have := (((h.set 0 (.int .i64 r)).set 1 (.int .i64 x)).set 2 (.int .i64 y)).set 3 (.int .i64 k)
  have e : (((cs.setIfInBounds 0 (.int .i64 r)).setIfInBounds 1 (.int .i64 x)).setIfInBounds 2 (.int .i64 y)).setIfInBounds 3 (.int .i64 k) = #[.int .i64 r, .int .i64 x, .int .i64 y, .int .i64 k] := by
    refine Array.ext (by simp [hs]) fun i h1 h2 => ?_
    have h3 : i < 4 := by simpa using h2
    have : i = 0 ∨ i = 1 ∨ i = 2 ∨ i = 3 := by omega
    rcases this with rfl | rfl | rfl | rfl <;> simp [hs]
  rw [e] at this; exact this
theorem others_stored {w : World} {b : Nat} {r x y k : Value} (q : Nat) (hq : q ≠ b) : ((((w.setCell ⟨b, 0, none⟩ r).setCell ⟨b, 1, none⟩ x).setCell ⟨b, 2, none⟩ y).setCell ⟨b, 3, none⟩ k).heap[q]? = w.heap[q]? := by
  rw [Below.heap_setCell _ _ _ q hq, Below.heap_setCell _ _ _ q hq, Below.heap_setCell _ _ _ q hq, Below.heap_setCell _ _ _ q hq]
set_option maxHeartbeats 4000000 in
theorem far_region {Q : Exit → Act → World → Prop} (a0 : Act) (W : World) (hsz0 : a0.tmps.size = 65) (A X : Nat → Array Value) (xr xx xy xk : Nat → Int) (hX : Hid (∀ j, X j = #[.int .i64 (xr j), .int .i64 (xx j), .int .i64 (xy j), .int .i64 (xk j)])) (ar ax ay ak : Nat → Int) (hA : Hid (∀ j, A j = #[.int .i64 (ar j), .int .i64 (ax j), .int .i64 (ay j), .int .i64 (ak j)])) (p3 p4 p5 : Nat)
    (h3 : a0.tmps[3]? = some (.pointer (some ⟨p3, 0, none⟩))) (h4 : a0.tmps[4]? = some (.pointer (some ⟨p4, 0, none⟩))) (h5 : a0.tmps[5]? = some (.pointer (some ⟨p5, 0, none⟩)))
    (b3 : Box W p3 28 (A 0)) (b4 : Box W p4 28 (A 1)) (b5 : Box W p5 28 (A 2))
    (hcall : ∀ j w, j < 3 → Calls Try.prog 18 #[.agg (A j)] w fun e w' => e = .returned (.agg (X j)) ∧ Below w.heap.size w w')
    (hQ : ∀ w' g7 g8 g9, Below W.heap.size W w' → W.heap.size ≤ g7 → W.heap.size ≤ g8 → W.heap.size ≤ g9 → Box w' g7 28 (X 0) → Box w' g8 28 (X 1) → Box w' g9 28 (X 2) → Q .normal { tmps := putAll a0.tmps [(13, .agg (A 0)), (14, .agg (X 0)), (15, .agg (A 1)), (16, .agg (X 1)), (17, .agg (A 2)), (18, .agg (X 2)), (7, .pointer (some ⟨g7, 0, none⟩)), (8, .pointer (some ⟨g8, 0, none⟩)), (9, .pointer (some ⟨g9, 0, none⟩))], defers := a0.defers } w') :
    (Code.region 1 #[{ dst := some 13, op := Op.load 28 (Operand.tmp 3), type := 28, pos := "law.go:51", after := #[], guard := none }, { dst := some 14, op := Op.call { callee := Callee.value (Operand.func 18), args := #[Operand.tmp 13], argTypes := #[28] }, type := 28, pos := "law.go:51", after := #[{ on := 0, ground := Ground.data }], guard := none }, { dst := some 15, op := Op.load 28 (Operand.tmp 4), type := 28, pos := "law.go:51", after := #[], guard := none }, { dst := some 16, op := Op.call { callee := Callee.value (Operand.func 18), args := #[Operand.tmp 15], argTypes := #[28] }, type := 28, pos := "law.go:51", after := #[{ on := 2, ground := Ground.data }, { on := 1, ground := Ground.chain }], guard := none }, { dst := some 17, op := Op.load 28 (Operand.tmp 5), type := 28, pos := "law.go:51", after := #[], guard := none }, { dst := some 18, op := Op.call { callee := Callee.value (Operand.func 18), args := #[Operand.tmp 17], argTypes := #[28] }, type := 28, pos := "law.go:51", after := #[{ on := 4, ground := Ground.data }, { on := 3, ground := Ground.chain }], guard := none }, { dst := some 7, op := Op.alloc 28, type := 0, pos := "law.go:51", after := #[], guard := none }, { dst := some 8, op := Op.alloc 28, type := 0, pos := "law.go:51", after := #[], guard := none }, { dst := some 9, op := Op.alloc 28, type := 0, pos := "law.go:51", after := #[], guard := none }, { dst := none, op := Op.store 28 (Operand.tmp 7) (Operand.tmp 14), type := 0, pos := "law.go:51", after := #[{ on := 6, ground := Ground.data }, { on := 1, ground := Ground.data }, { on := 5, ground := Ground.chain }, { on := 0, ground := Ground.phase }, { on := 1, ground := Ground.phase }, { on := 2, ground := Ground.textOnly Departure.lateStores }, { on := 3, ground := Ground.textOnly Departure.lateStoresUnsure }, { on := 4, ground := Ground.textOnly Departure.lateStores }, { on := 5, ground := Ground.textOnly Departure.lateStoresUnsure }, { on := 6, ground := Ground.phase }, { on := 7, ground := Ground.phase }, { on := 8, ground := Ground.phase }], guard := none }, { dst := none, op := Op.store 28 (Operand.tmp 8) (Operand.tmp 16), type := 0, pos := "law.go:51", after := #[{ on := 7, ground := Ground.data }, { on := 3, ground := Ground.data }, { on := 9, ground := Ground.chain }, { on := 0, ground := Ground.phase }, { on := 1, ground := Ground.phase }, { on := 2, ground := Ground.phase }, { on := 3, ground := Ground.phase }, { on := 4, ground := Ground.textOnly Departure.lateStores }, { on := 5, ground := Ground.textOnly Departure.lateStoresUnsure }, { on := 6, ground := Ground.phase }, { on := 7, ground := Ground.phase }, { on := 8, ground := Ground.phase }, { on := 9, ground := Ground.phase }], guard := none }, { dst := none, op := Op.store 28 (Operand.tmp 9) (Operand.tmp 18), type := 0, pos := "law.go:51", after := #[{ on := 8, ground := Ground.data }, { on := 5, ground := Ground.data }, { on := 10, ground := Ground.chain }, { on := 0, ground := Ground.phase }, { on := 1, ground := Ground.phase }, { on := 2, ground := Ground.phase }, { on := 3, ground := Ground.phase }, { on := 4, ground := Ground.phase }, { on := 5, ground := Ground.phase }, { on := 6, ground := Ground.phase }, { on := 7, ground := Ground.phase }, { on := 8, ground := Ground.phase }, { on := 9, ground := Ground.phase }, { on := 10, ground := Ground.phase }], guard := none }] true).wp Try.prog Q a0 W := by
  have hn : ([some 13, some 14, some 15, some 16, some 17, some 18, some 7, some 8, some 9, none, none, none] : List (Option Nat)).Pairwise (fun x y => x = none ∨ x ≠ y) := of_decide_eq_true (by kernel_rfl)
  refine wp_region_inv mixed (fun listed a w => Slots a0 [some 13, some 14, some 15, some 16, some 17, some 18, some 7, some 8, some 9, none, none, none] [some (.agg (A 0)), some (.agg (X 0)), some (.agg (A 1)), some (.agg (X 1)), some (.agg (A 2)), some (.agg (X 2)), none, none, none, none, none, none] listed a ∧ Below W.heap.size W w ∧ Three W w a.tmps (fun j => listed.getD (6 + j) false) (fun j => listed.getD (9 + j) false) X) (by kernel_rfl) ?_ ?_ ?_
  · exact ⟨Slots.start _ _ _ _, (Below.refl _ W).drew, fun _ => 0, fun j hj h => (by have h' := h; simp only [start_false] at h'; cases h'), fun i j hi hj hij h => (by have h' := h; simp only [start_false] at h'; cases h')⟩
  · intro listed a w i' hsl hilt hl hd hcl ⟨hS, hb, hT⟩
    have hsz : Hid (a.tmps.size = 65) := hS.size.trans hsz0
    have hls : i' < listed.size := by rw [hsl]; exact hilt
    have hcase : i' = 0 ∨ i' = 1 ∨ i' = 2 ∨ i' = 3 ∨ i' = 4 ∨ i' = 5 ∨ i' = 6 ∨ i' = 7 ∨ i' = 8 ∨ i' = 9 ∨ i' = 10 ∨ i' = 11 := by
      have : i' < 12 := hilt
      omega
    rcases hcase with rfl | rfl | rfl | rfl | rfl | rfl | rfl | rfl | rfl | rfl | rfl | rfl
    ·
      refine wpOp_step (o := { dst := some 13, op := Op.load 28 (Operand.tmp 3), type := 28, pos := "law.go:51", after := #[], guard := none }) rfl ?_
      intro K hK
      have q : a.tmps[3]? = some (.pointer (some ⟨p3, 0, none⟩)) := (hS.keep 3 (of_decide_eq_true (by kernel_rfl))).trans h3
      have bb := b3.next hb
      rw [hA.out] at bb
      have m0 := bb.cell 0 _ rfl
      have m1 := bb.cell 1 _ rfl
      have m2 := bb.cell 2 _ rfl
      have m3 := bb.cell 3 _ rfl
      go_simp
      exact hK _ _ ⟨hS.put hn 0 13 _ rfl (by rw [hsz0]; omega) (fun u h => by injection h with h; injection h with h; rw [← h, hA.out]), hb, hT.congr (fun j hj => (by rw [Array.getElem?_setIfInBounds, if_neg (by omega)])) (fun j hj => (by rw [getD_set hls, if_neg (by omega)])) (fun j hj => (by rw [getD_set hls, if_neg (by omega)]))⟩
    ·
      refine wpOp_step (o := { dst := some 14, op := Op.call { callee := Callee.value (Operand.func 18), args := #[Operand.tmp 13], argTypes := #[28] }, type := 28, pos := "law.go:51", after := #[{ on := 0, ground := Ground.data }], guard := none }) rfl ?_
      intro K hK
      have q : a.tmps[13]? = some (.agg (A 0)) := hS.val 0 13 _ (hd 0 (of_decide_eq_true (by kernel_rfl))) rfl rfl
      have hc := hcall 0 w (by omega)
      go_simp
      go_at_call 18
      refine hc.mono ?_
      rintro e w' ⟨rfl, hb'⟩
      exact hK _ _ ⟨hS.put hn 1 14 _ rfl (by rw [hsz0]; omega) (fun u h => by injection h with h; injection h with h; exact h.symm), hb.trans (hb'.mono hb.size), (hT.next hb').congr (fun j hj => (by rw [Array.getElem?_setIfInBounds, if_neg (by omega)])) (fun j hj => (by rw [getD_set hls, if_neg (by omega)])) (fun j hj => (by rw [getD_set hls, if_neg (by omega)]))⟩
    ·
      refine wpOp_step (o := { dst := some 15, op := Op.load 28 (Operand.tmp 4), type := 28, pos := "law.go:51", after := #[], guard := none }) rfl ?_
      intro K hK
      have q : a.tmps[4]? = some (.pointer (some ⟨p4, 0, none⟩)) := (hS.keep 4 (of_decide_eq_true (by kernel_rfl))).trans h4
      have bb := b4.next hb
      rw [hA.out] at bb
      have m0 := bb.cell 0 _ rfl
      have m1 := bb.cell 1 _ rfl
      have m2 := bb.cell 2 _ rfl
      have m3 := bb.cell 3 _ rfl
      go_simp
      exact hK _ _ ⟨hS.put hn 2 15 _ rfl (by rw [hsz0]; omega) (fun u h => by injection h with h; injection h with h; rw [← h, hA.out]), hb, hT.congr (fun j hj => (by rw [Array.getElem?_setIfInBounds, if_neg (by omega)])) (fun j hj => (by rw [getD_set hls, if_neg (by omega)])) (fun j hj => (by rw [getD_set hls, if_neg (by omega)]))⟩
    ·
      refine wpOp_step (o := { dst := some 16, op := Op.call { callee := Callee.value (Operand.func 18), args := #[Operand.tmp 15], argTypes := #[28] }, type := 28, pos := "law.go:51", after := #[{ on := 2, ground := Ground.data }, { on := 1, ground := Ground.chain }], guard := none }) rfl ?_
      intro K hK
      have q : a.tmps[15]? = some (.agg (A 1)) := hS.val 2 15 _ (hd 2 (of_decide_eq_true (by kernel_rfl))) rfl rfl
      have hc := hcall 1 w (by omega)
      go_simp
      go_at_call 18
      refine hc.mono ?_
      rintro e w' ⟨rfl, hb'⟩
      exact hK _ _ ⟨hS.put hn 3 16 _ rfl (by rw [hsz0]; omega) (fun u h => by injection h with h; injection h with h; exact h.symm), hb.trans (hb'.mono hb.size), (hT.next hb').congr (fun j hj => (by rw [Array.getElem?_setIfInBounds, if_neg (by omega)])) (fun j hj => (by rw [getD_set hls, if_neg (by omega)])) (fun j hj => (by rw [getD_set hls, if_neg (by omega)]))⟩
    ·
      refine wpOp_step (o := { dst := some 17, op := Op.load 28 (Operand.tmp 5), type := 28, pos := "law.go:51", after := #[], guard := none }) rfl ?_
      intro K hK
      have q : a.tmps[5]? = some (.pointer (some ⟨p5, 0, none⟩)) := (hS.keep 5 (of_decide_eq_true (by kernel_rfl))).trans h5
      have bb := b5.next hb
      rw [hA.out] at bb
      have m0 := bb.cell 0 _ rfl
      have m1 := bb.cell 1 _ rfl
      have m2 := bb.cell 2 _ rfl
      have m3 := bb.cell 3 _ rfl
      go_simp
      exact hK _ _ ⟨hS.put hn 4 17 _ rfl (by rw [hsz0]; omega) (fun u h => by injection h with h; injection h with h; rw [← h, hA.out]), hb, hT.congr (fun j hj => (by rw [Array.getElem?_setIfInBounds, if_neg (by omega)])) (fun j hj => (by rw [getD_set hls, if_neg (by omega)])) (fun j hj => (by rw [getD_set hls, if_neg (by omega)]))⟩
    ·
      refine wpOp_step (o := { dst := some 18, op := Op.call { callee := Callee.value (Operand.func 18), args := #[Operand.tmp 17], argTypes := #[28] }, type := 28, pos := "law.go:51", after := #[{ on := 4, ground := Ground.data }, { on := 3, ground := Ground.chain }], guard := none }) rfl ?_
      intro K hK
      have q : a.tmps[17]? = some (.agg (A 2)) := hS.val 4 17 _ (hd 4 (of_decide_eq_true (by kernel_rfl))) rfl rfl
      have hc := hcall 2 w (by omega)
      go_simp
      go_at_call 18
      refine hc.mono ?_
      rintro e w' ⟨rfl, hb'⟩
      exact hK _ _ ⟨hS.put hn 5 18 _ rfl (by rw [hsz0]; omega) (fun u h => by injection h with h; injection h with h; exact h.symm), hb.trans (hb'.mono hb.size), (hT.next hb').congr (fun j hj => (by rw [Array.getElem?_setIfInBounds, if_neg (by omega)])) (fun j hj => (by rw [getD_set hls, if_neg (by omega)])) (fun j hj => (by rw [getD_set hls, if_neg (by omega)]))⟩
    ·
      refine wpOp_step (o := { dst := some 7, op := Op.alloc 28, type := 0, pos := "law.go:51", after := #[], guard := none }) rfl ?_
      intro K hK
      have h9 : listed.getD 9 false = false := by
        cases h : listed.getD 9 false with
        | false => rfl
        | true => have := hcl 9 6 h (of_decide_eq_true (by kernel_rfl)); rw [hl] at this; cases this
      have hT2 := hT.alloc hb.size 0 (by omega) hl h9 (by rw [hsz.out]; omega)
      go_simp
      refine hK _ _ ⟨hS.put hn 6 7 _ rfl (by rw [hsz0]; omega) (fun u h => by cases h), hb.alloc hb.size _, hT2.congr (fun j hj => rfl) (fun j hj => ?_) (fun j hj => (by rw [getD_set hls, if_neg (by omega)]))⟩
      rw [getD_set hls]
      by_cases e : j = 0
      · subst e; rfl
      · rw [if_neg e, if_neg (by omega)]
    ·
      refine wpOp_step (o := { dst := some 8, op := Op.alloc 28, type := 0, pos := "law.go:51", after := #[], guard := none }) rfl ?_
      intro K hK
      have h9 : listed.getD 10 false = false := by
        cases h : listed.getD 10 false with
        | false => rfl
        | true => have := hcl 10 7 h (of_decide_eq_true (by kernel_rfl)); rw [hl] at this; cases this
      have hT2 := hT.alloc hb.size 1 (by omega) hl h9 (by rw [hsz.out]; omega)
      go_simp
      refine hK _ _ ⟨hS.put hn 7 8 _ rfl (by rw [hsz0]; omega) (fun u h => by cases h), hb.alloc hb.size _, hT2.congr (fun j hj => rfl) (fun j hj => ?_) (fun j hj => (by rw [getD_set hls, if_neg (by omega)]))⟩
      rw [getD_set hls]
      by_cases e : j = 1
      · subst e; rfl
      · rw [if_neg e, if_neg (by omega)]
    ·
      refine wpOp_step (o := { dst := some 9, op := Op.alloc 28, type := 0, pos := "law.go:51", after := #[], guard := none }) rfl ?_
      intro K hK
      have h9 : listed.getD 11 false = false := by
        cases h : listed.getD 11 false with
        | false => rfl
        | true => have := hcl 11 8 h (of_decide_eq_true (by kernel_rfl)); rw [hl] at this; cases this
      have hT2 := hT.alloc hb.size 2 (by omega) hl h9 (by rw [hsz.out]; omega)
      go_simp
      refine hK _ _ ⟨hS.put hn 8 9 _ rfl (by rw [hsz0]; omega) (fun u h => by cases h), hb.alloc hb.size _, hT2.congr (fun j hj => rfl) (fun j hj => ?_) (fun j hj => (by rw [getD_set hls, if_neg (by omega)]))⟩
      rw [getD_set hls]
      by_cases e : j = 2
      · subst e; rfl
      · rw [if_neg e, if_neg (by omega)]
    ·
      refine wpOp_step (o := { dst := none, op := Op.store 28 (Operand.tmp 7) (Operand.tmp 14), type := 0, pos := "law.go:51", after := #[{ on := 6, ground := Ground.data }, { on := 1, ground := Ground.data }, { on := 5, ground := Ground.chain }, { on := 0, ground := Ground.phase }, { on := 1, ground := Ground.phase }, { on := 2, ground := Ground.textOnly Departure.lateStores }, { on := 3, ground := Ground.textOnly Departure.lateStoresUnsure }, { on := 4, ground := Ground.textOnly Departure.lateStores }, { on := 5, ground := Ground.textOnly Departure.lateStoresUnsure }, { on := 6, ground := Ground.phase }, { on := 7, ground := Ground.phase }, { on := 8, ground := Ground.phase }], guard := none }) rfl ?_
      intro K hK
      have ha := hd 6 (of_decide_eq_true (by kernel_rfl))
      obtain ⟨b, q, hge, hB⟩ := hT.find 0 (by omega) ha hl
      have q2 : a.tmps[14]? = some (.agg (X 0)) := hS.val 1 14 _ (hd 1 (of_decide_eq_true (by kernel_rfl))) rfl rfl
      have r0 := hB.cell 0 _ rfl
      have r1 := hB.cell 1 _ rfl
      have r2 := hB.cell 2 _ rfl
      have r3 := hB.cell 3 _ rfl
      have f0 := hB.frozen 0
      have f1 := hB.frozen 1
      have f2 := hB.frozen 2
      have f3 := hB.frozen 3
      have bl := hB.lt
      have hT2 := hT.store (w' := (((w.setCell ⟨b, 0, none⟩ (.int .i64 (xr 0))).setCell ⟨b, 1, none⟩ (.int .i64 (xx 0))).setCell ⟨b, 2, none⟩ (.int .i64 (xy 0))).setCell ⟨b, 3, none⟩ (.int .i64 (xk 0))) 0 (by omega) ha b q (by rw [hX.out]; exact box_stored hB rfl) (fun q hq => others_stored q hq)
      have hbN := Below.setCell (Below.setCell (Below.setCell (Below.setCell hb (show W.heap.size ≤ (⟨b, 0, none⟩ : Addr).block from hge) (.int .i64 (xr 0))) (show W.heap.size ≤ (⟨b, 1, none⟩ : Addr).block from hge) (.int .i64 (xx 0))) (show W.heap.size ≤ (⟨b, 2, none⟩ : Addr).block from hge) (.int .i64 (xy 0))) (show W.heap.size ≤ (⟨b, 3, none⟩ : Addr).block from hge) (.int .i64 (xk 0))
      rw [hX.out] at q2
      go_simp
      refine hK _ _ ⟨hS.skip 9 rfl, hbN, hT2.congr (fun j hj => rfl) (fun j hj => (by rw [getD_set hls, if_neg (by omega)])) (fun j hj => ?_)⟩
      rw [getD_set hls]
      by_cases e : j = 0
      · subst e; rfl
      · rw [if_neg e, if_neg (by omega)]
    ·
      refine wpOp_step (o := { dst := none, op := Op.store 28 (Operand.tmp 8) (Operand.tmp 16), type := 0, pos := "law.go:51", after := #[{ on := 7, ground := Ground.data }, { on := 3, ground := Ground.data }, { on := 9, ground := Ground.chain }, { on := 0, ground := Ground.phase }, { on := 1, ground := Ground.phase }, { on := 2, ground := Ground.phase }, { on := 3, ground := Ground.phase }, { on := 4, ground := Ground.textOnly Departure.lateStores }, { on := 5, ground := Ground.textOnly Departure.lateStoresUnsure }, { on := 6, ground := Ground.phase }, { on := 7, ground := Ground.phase }, { on := 8, ground := Ground.phase }, { on := 9, ground := Ground.phase }], guard := none }) rfl ?_
      intro K hK
      have ha := hd 7 (of_decide_eq_true (by kernel_rfl))
      obtain ⟨b, q, hge, hB⟩ := hT.find 1 (by omega) ha hl
      have q2 : a.tmps[16]? = some (.agg (X 1)) := hS.val 3 16 _ (hd 3 (of_decide_eq_true (by kernel_rfl))) rfl rfl
      have r0 := hB.cell 0 _ rfl
      have r1 := hB.cell 1 _ rfl
      have r2 := hB.cell 2 _ rfl
      have r3 := hB.cell 3 _ rfl
      have f0 := hB.frozen 0
      have f1 := hB.frozen 1
      have f2 := hB.frozen 2
      have f3 := hB.frozen 3
      have bl := hB.lt
      have hT2 := hT.store (w' := (((w.setCell ⟨b, 0, none⟩ (.int .i64 (xr 1))).setCell ⟨b, 1, none⟩ (.int .i64 (xx 1))).setCell ⟨b, 2, none⟩ (.int .i64 (xy 1))).setCell ⟨b, 3, none⟩ (.int .i64 (xk 1))) 1 (by omega) ha b q (by rw [hX.out]; exact box_stored hB rfl) (fun q hq => others_stored q hq)
      have hbN := Below.setCell (Below.setCell (Below.setCell (Below.setCell hb (show W.heap.size ≤ (⟨b, 0, none⟩ : Addr).block from hge) (.int .i64 (xr 1))) (show W.heap.size ≤ (⟨b, 1, none⟩ : Addr).block from hge) (.int .i64 (xx 1))) (show W.heap.size ≤ (⟨b, 2, none⟩ : Addr).block from hge) (.int .i64 (xy 1))) (show W.heap.size ≤ (⟨b, 3, none⟩ : Addr).block from hge) (.int .i64 (xk 1))
      rw [hX.out] at q2
      go_simp
      refine hK _ _ ⟨hS.skip 10 rfl, hbN, hT2.congr (fun j hj => rfl) (fun j hj => (by rw [getD_set hls, if_neg (by omega)])) (fun j hj => ?_)⟩
      rw [getD_set hls]
      by_cases e : j = 1
      · subst e; rfl
      · rw [if_neg e, if_neg (by omega)]
    ·
      refine wpOp_step (o := { dst := none, op := Op.store 28 (Operand.tmp 9) (Operand.tmp 18), type := 0, pos := "law.go:51", after := #[{ on := 8, ground := Ground.data }, { on := 5, ground := Ground.data }, { on := 10, ground := Ground.chain }, { on := 0, ground := Ground.phase }, { on := 1, ground := Ground.phase }, { on := 2, ground := Ground.phase }, { on := 3, ground := Ground.phase }, { on := 4, ground := Ground.phase }, { on := 5, ground := Ground.phase }, { on := 6, ground := Ground.phase }, { on := 7, ground := Ground.phase }, { on := 8, ground := Ground.phase }, { on := 9, ground := Ground.phase }, { on := 10, ground := Ground.phase }], guard := none }) rfl ?_
      intro K hK
      have ha := hd 8 (of_decide_eq_true (by kernel_rfl))
      obtain ⟨b, q, hge, hB⟩ := hT.find 2 (by omega) ha hl
      have q2 : a.tmps[18]? = some (.agg (X 2)) := hS.val 5 18 _ (hd 5 (of_decide_eq_true (by kernel_rfl))) rfl rfl
      have r0 := hB.cell 0 _ rfl
      have r1 := hB.cell 1 _ rfl
      have r2 := hB.cell 2 _ rfl
      have r3 := hB.cell 3 _ rfl
      have f0 := hB.frozen 0
      have f1 := hB.frozen 1
      have f2 := hB.frozen 2
      have f3 := hB.frozen 3
      have bl := hB.lt
      have hT2 := hT.store (w' := (((w.setCell ⟨b, 0, none⟩ (.int .i64 (xr 2))).setCell ⟨b, 1, none⟩ (.int .i64 (xx 2))).setCell ⟨b, 2, none⟩ (.int .i64 (xy 2))).setCell ⟨b, 3, none⟩ (.int .i64 (xk 2))) 2 (by omega) ha b q (by rw [hX.out]; exact box_stored hB rfl) (fun q hq => others_stored q hq)
      have hbN := Below.setCell (Below.setCell (Below.setCell (Below.setCell hb (show W.heap.size ≤ (⟨b, 0, none⟩ : Addr).block from hge) (.int .i64 (xr 2))) (show W.heap.size ≤ (⟨b, 1, none⟩ : Addr).block from hge) (.int .i64 (xx 2))) (show W.heap.size ≤ (⟨b, 2, none⟩ : Addr).block from hge) (.int .i64 (xy 2))) (show W.heap.size ≤ (⟨b, 3, none⟩ : Addr).block from hge) (.int .i64 (xk 2))
      rw [hX.out] at q2
      go_simp
      refine hK _ _ ⟨hS.skip 11 rfl, hbN, hT2.congr (fun j hj => rfl) (fun j hj => (by rw [getD_set hls, if_neg (by omega)])) (fun j hj => ?_)⟩
      rw [getD_set hls]
      by_cases e : j = 2
      · subst e; rfl
      · rw [if_neg e, if_neg (by omega)]
  · intro listed a w hall ⟨hS, hb, g, h1, _⟩
    obtain ⟨a1, a2, a3⟩ := h1 0 (by omega) (hall 6 (by decide))
    obtain ⟨c1, c2, c3⟩ := h1 1 (by omega) (hall 7 (by decide))
    obtain ⟨d1, d2, d3⟩ := h1 2 (by omega) (hall 8 (by decide))
    rw [if_pos (hall 9 (by decide))] at a3
    rw [if_pos (hall 10 (by decide))] at c3
    rw [if_pos (hall 11 (by decide))] at d3
    have hf := hS.frame [(13, .agg (A 0)), (14, .agg (X 0)), (15, .agg (A 1)), (16, .agg (X 1)), (17, .agg (A 2)), (18, .agg (X 2)), (7, .pointer (some ⟨g 0, 0, none⟩)), (8, .pointer (some ⟨g 1, 0, none⟩)), (9, .pointer (some ⟨g 2, 0, none⟩))] rfl (of_decide_eq_true (by kernel_rfl)) (by
      simp only [List.map_cons, List.map_nil, List.all_cons, List.all_nil, hsz0]; rfl) (by
      intro p hp
      simp only [List.mem_cons, List.not_mem_nil, or_false] at hp
      rcases hp with rfl | rfl | rfl | rfl | rfl | rfl | rfl | rfl | rfl
      · exact hS.val 0 13 _ (hall 0 (by decide)) rfl rfl
      · exact hS.val 1 14 _ (hall 1 (by decide)) rfl rfl
      · exact hS.val 2 15 _ (hall 2 (by decide)) rfl rfl
      · exact hS.val 3 16 _ (hall 3 (by decide)) rfl rfl
      · exact hS.val 4 17 _ (hall 4 (by decide)) rfl rfl
      · exact hS.val 5 18 _ (hall 5 (by decide)) rfl rfl
      · exact a1
      · exact c1
      · exact d1)
    rw [hf]
    exact hQ w (g 0) (g 1) (g 2) hb a2 c2 d2 a3 c3 d3
end Go.Proofs.Ytgpkdjhllekihaa.Geo
