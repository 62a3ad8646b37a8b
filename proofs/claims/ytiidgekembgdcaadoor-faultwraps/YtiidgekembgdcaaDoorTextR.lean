/- One statement of fault.Text: the place written behind the code. -/
import Derived.Test.YtiidgekembgdcaaDoorTextA
import Derived.Test.YtiidgekembgdcaaDoorRound
namespace Go.Proofs.YtiidgekembgdcaaDoor
open Go.RowKit Go.Shelf

attribute [local go_sem] Oper.semAt_some

theorem builder_kept {T e B b : Nat} {bs : List Value} {w w' : World} {row : Option Nat} (h : Lib.IsBuilderF T e B b bs w) (hg : w.grownBy w' row)
    (hr : ∀ r, row = some r → ∃ o : Obj, w.heap[r]? = some o ∧ o.isCells = false) : Lib.IsBuilderF T e B b bs w' := by
  have key : ∀ p, Lib.BuilderAtF T e B b p bs w → Lib.BuilderAtF T e B b p bs w' := by
    intro p h
    have hlt := h.lt
    obtain ⟨hB, v, hbk, hown, hne⟩ := h
    refine ⟨hB, v, (hg.block b hlt ?_).trans hbk, hown.kept hg ?_, hne⟩
    · intro hb
      obtain ⟨o, ho, hc⟩ := hr b hb.symm
      rw [hbk] at ho; cases ho; cases hc
    · cases row with
      | none => cases hv : v.ownBlock <;> simp
      | some r =>
        right
        intro hv
        obtain ⟨o, ho, hc⟩ := hr r rfl
        obtain ⟨c, fz, hcc⟩ := Lib.ownsRowF_kind hown r hv
        rw [hcc] at ho; cases ho; cases hc
  rcases h with h | h
  · exact .inl (key _ h)
  · exact .inr (key _ h)

theorem keeps_of_others {B b : Nat} {bs : List Value} {w w' : World} (h : Lib.IsBuilderF 54 5 B b bs w) (hk : Lib.OthersKept 5 (some b) w w') (hb : Below B w w') : KeepsOthers w w' := by
  refine ⟨hb.size, fun k o ho hc => hk k o ho ?_ ?_⟩
  · intro e
    cases e
    rcases h with h | h
    · obtain ⟨_, v, hbk, _⟩ := h; rw [hbk] at ho; cases ho; cases hc
    · obtain ⟨_, v, hbk, _⟩ := h; rw [hbk] at ho; cases ho; cases hc
  · intro c fz e; subst e; cases hc
theorem keeps_of_below {w w' : World} (hb : Below w.heap.size w w') : KeepsOthers w w' :=
  ⟨hb.size, fun k _ ho _ => (hb.block k (Array.getElem?_eq_some_iff.1 ho).1).trans ho⟩

/-- What stands behind a call of Itoa: the builder, what is kept, the cells of the fault. -/
structure Mid (B b : Nat) (T : List UInt8) (W W' : World) : Prop where
  pow : Pow W'
  bd : Lib.IsBuilderF 54 5 B b (Lib.byteCells T) W'
  le : B ≤ W'.heap.size
  keeps : KeepsOthers W W'
  below : Below B W W'
theorem Mid.next {B b : Nat} {T : List UInt8} {W W1 W2 : World} (m : Mid B b T W W1) (h : Below W1.heap.size W1 W2) : Mid B b T W W2 :=
  ⟨m.pow.below h, builder_below m.bd h, Nat.le_trans m.le h.size, m.keeps.trans (keeps_of_below h), m.below.trans (h.mono m.le)⟩
theorem Mid.itoa {B b xb : Nat} {T : List UInt8} {W W1 : World} (m : Mid B b T W W1) (n li co : Int) (hn : I64 n) (hx : xb < B) (h1 : W.cell? ⟨xb, 1, none⟩ = some (.int .i64 li)) (h2 : W.cell? ⟨xb, 2, none⟩ = some (.int .i64 co)) :
    Calls Tryd.prog 24 #[.int .i64 n] W1 fun e w' => e = .returned (.string ⟨(Lib.itoa n).toArray⟩) ∧ Mid B b T W w' ∧ w'.cell? ⟨xb, 1, none⟩ = some (.int .i64 li) ∧ w'.cell? ⟨xb, 2, none⟩ = some (.int .i64 co) := by
  refine (itoa_b n hn W1 m.pow).mono ?_
  rintro e w' ⟨rfl, hb⟩
  have m' := m.next hb
  exact ⟨rfl, m', (m'.below.cell (p := ⟨xb, 1, none⟩) hx).trans h1, (m'.below.cell (p := ⟨xb, 2, none⟩) hx).trans h2⟩

def Done8 (B b : Nat) (T : List UInt8) (W : World) : Exit → Act → World → Prop := fun e _ W' => e = .normal ∧ Lib.IsBuilderF 54 5 B b (Lib.byteCells T) W' ∧ KeepsOthers W W' ∧ Below B W W'

set_option maxRecDepth 100000 in
set_option maxHeartbeats 4000000 in
theorem region8_in (l n : Nat) (h2 : 1 ≤ n) (B b xb : Nat) (li co : Int) (r1 : I64 li) (r2 : I64 co) (T : List UInt8) (hT : T.length ≤ 103000) (W : World)
    (hc1 : W.cell? ⟨xb, 1, none⟩ = some (.int .i64 li)) (hc2 : W.cell? ⟨xb, 2, none⟩ = some (.int .i64 co)) (hpow : Pow W) (hbd : Lib.IsBuilderF 54 5 B b (Lib.byteCells T) W) (hBW : B ≤ W.heap.size) (hxB : xb < B)
    (u0 u1 u2 u5 u6 u7 u8 u9 u10 u11 u12 u13 u14 u15 u16 u17 u18 u19 u20 u21 u22 u23 u24 u25 u26 u27 u28 u29 u30 u31 u32 u33 u34 u35 : Value) :
    (Code.region 8 #[{ dst := some 19, op := Op.move (Operand.tmp 4), type := 41, pos := "fault.go:85", after := #[], guard := none }, { dst := some 20, op := Op.nilCheck (Operand.tmp 19), type := 0, pos := "fault.go:85", after := #[{ on := 0, ground := Ground.data }], guard := none }, { dst := some 21, op := Op.fieldAddr 44 (Operand.tmp 20) 1, type := 0, pos := "fault.go:85", after := #[{ on := 1, ground := Ground.data }], guard := none }, { dst := some 22, op := Op.fieldAddr 31 (Operand.tmp 21) 0, type := 0, pos := "fault.go:85", after := #[{ on := 2, ground := Ground.data }], guard := none }, { dst := some 23, op := Op.load 3 (Operand.tmp 22), type := 3, pos := "fault.go:85", after := #[{ on := 3, ground := Ground.data }], guard := none }, { dst := some 24, op := Op.call { callee := Callee.value (Operand.func 24), args := #[Operand.tmp 23], argTypes := #[3] }, type := 9, pos := "fault.go:85", after := #[{ on := 4, ground := Ground.data }], guard := none }, { dst := some 25, op := Op.binOp BinOp.add 9 (Operand.const (Value.string { data := #[32, 97, 116, 32] })) (Operand.tmp 24) 9, type := 9, pos := "fault.go:85", after := #[{ on := 5, ground := Ground.data }], guard := none }, { dst := some 26, op := Op.binOp BinOp.add 9 (Operand.tmp 25) (Operand.const (Value.string { data := #[58] })) 9, type := 9, pos := "fault.go:85", after := #[{ on := 6, ground := Ground.data }], guard := none }, { dst := some 27, op := Op.move (Operand.tmp 4), type := 41, pos := "fault.go:85", after := #[], guard := none }, { dst := some 28, op := Op.nilCheck (Operand.tmp 27), type := 0, pos := "fault.go:85", after := #[{ on := 8, ground := Ground.data }], guard := none }, { dst := some 29, op := Op.fieldAddr 44 (Operand.tmp 28) 1, type := 0, pos := "fault.go:85", after := #[{ on := 9, ground := Ground.data }], guard := none }, { dst := some 30, op := Op.fieldAddr 31 (Operand.tmp 29) 1, type := 0, pos := "fault.go:85", after := #[{ on := 10, ground := Ground.data }], guard := none }, { dst := some 31, op := Op.load 3 (Operand.tmp 30), type := 3, pos := "fault.go:85", after := #[{ on := 11, ground := Ground.data }], guard := none }, { dst := some 32, op := Op.call { callee := Callee.value (Operand.func 24), args := #[Operand.tmp 31], argTypes := #[3] }, type := 9, pos := "fault.go:85", after := #[{ on := 12, ground := Ground.data }, { on := 5, ground := Ground.chain }], guard := none }, { dst := some 33, op := Op.binOp BinOp.add 9 (Operand.tmp 26) (Operand.tmp 32) 9, type := 9, pos := "fault.go:85", after := #[{ on := 7, ground := Ground.data }, { on := 13, ground := Ground.data }], guard := none }, { dst := some 34, op := Op.call { callee := Callee.value (Operand.func 22), args := #[Operand.tmp 3, Operand.tmp 33], argTypes := #[54, 9] }, type := 56, pos := "fault.go:85", after := #[{ on := 14, ground := Ground.data }, { on := 13, ground := Ground.chain }], guard := none }] true).wpIn (Fence.wide.inRound l) n Tryd.prog (Done8 B b (T ++ atText3 li co) W) { tmps := #[u0, u1, u2, .pointer (some ⟨b, 0, none⟩), .pointer (some ⟨xb, 0, none⟩), u5, u6, u7, u8, u9, u10, u11, u12, u13, u14, u15, u16, u17, u18, u19, u20, u21, u22, u23, u24, u25, u26, u27, u28, u29, u30, u31, u32, u33, u34, u35], defers := [] } W := by
  have hmx : Tryd.prog.follows .mixedOrders = true := by kernel_rfl
  have ha1 := atText_add li r1
  have ha2 := atText_add2 li r1
  have ha3 := atText_add3 li co r1 r2
  have hwl : (Lib.byteCells T).length + (⟨(atText3 li co).toArray⟩ : ByteArray).size ≤ 140737488355328 := by
    have := atText3_len li co r1 r2
    rw [Lib.byteCells_length]; show _ + (atText3 li co).toArray.size ≤ _; simp; omega
  have m0 : Mid B b T W W.drew := ⟨hpow, hbd, hBW, KeepsOthers.drew _, (Below.refl _ _).drew⟩
  have HW : Hid (W.cell? ⟨xb, 1, none⟩ = some (.int .i64 li) ∧ W.cell? ⟨xb, 2, none⟩ = some (.int .i64 co)) := ⟨hc1, hc2⟩
  clear hbd hpow hBW hT
  refine region_inRound rfl l hmx ?_ ?_
  · intro j o ho c hc
    have hj : j < 16 := by
      have := (Array.getElem?_eq_some_iff.1 ho).1
      simpa using this
    match j, hj with
    | 0, _ | 1, _ | 2, _ | 3, _ | 4, _ | 5, _ | 6, _ | 7, _ | 8, _ | 9, _ | 10, _ | 11, _ | 12, _ | 13, _ | 14, _ | 15, _ => simp at ho; subst ho; cases hc
  refine wpAnyIn_take (i := 0) (v := .pointer (some ⟨xb, 0, none⟩)) rfl rfl (by kernel_rfl) (by kernel_rfl) (by kernel_rfl) (fun _ _ _ h => h) ⟨Or.inl ⟨by rfl, by intro w; go_simp⟩, fun _ => rfl⟩ ?_
  refine wpAnyIn_take (i := 1) (v := .pointer (some ⟨xb, 0, none⟩)) rfl rfl (by kernel_rfl) (by kernel_rfl) (by kernel_rfl) (fun _ _ _ h => h) ⟨Or.inl ⟨by rfl, by intro w; go_simp⟩, fun _ => rfl⟩ ?_
  refine wpAnyIn_take (i := 2) (v := .pointer (some ⟨xb, 1, none⟩)) rfl rfl (by kernel_rfl) (by kernel_rfl) (by kernel_rfl) (fun _ _ _ h => h) ⟨Or.inl ⟨by rfl, by intro w; go_simp⟩, fun _ => rfl⟩ ?_
  refine wpAnyIn_take (i := 3) (v := .pointer (some ⟨xb, 1, none⟩)) rfl rfl (by kernel_rfl) (by kernel_rfl) (by kernel_rfl) (fun _ _ _ h => h) ⟨Or.inl ⟨by rfl, by intro w; go_simp⟩, fun _ => rfl⟩ ?_
  refine wpAnyIn_take (i := 8) (v := .pointer (some ⟨xb, 0, none⟩)) rfl rfl (by kernel_rfl) (by kernel_rfl) (by kernel_rfl) (fun _ _ _ h => h) ⟨Or.inl ⟨by rfl, by intro w; go_simp⟩, fun _ => rfl⟩ ?_
  refine wpAnyIn_take (i := 9) (v := .pointer (some ⟨xb, 0, none⟩)) rfl rfl (by kernel_rfl) (by kernel_rfl) (by kernel_rfl) (fun _ _ _ h => h) ⟨Or.inl ⟨by rfl, by intro w; go_simp⟩, fun _ => rfl⟩ ?_
  refine wpAnyIn_take (i := 10) (v := .pointer (some ⟨xb, 1, none⟩)) rfl rfl (by kernel_rfl) (by kernel_rfl) (by kernel_rfl) (fun _ _ _ h => h) ⟨Or.inl ⟨by rfl, by intro w; go_simp⟩, fun _ => rfl⟩ ?_
  refine wpAnyIn_take (i := 11) (v := .pointer (some ⟨xb, 2, none⟩)) rfl rfl (by kernel_rfl) (by kernel_rfl) (by kernel_rfl) (fun _ _ _ h => h) ⟨Or.inl ⟨by rfl, by intro w; go_simp⟩, fun _ => rfl⟩ ?_
  refine wpAnyIn_ready (rs := [4, 12]) (by kernel_rfl) (by simp) ?_
  refine AllReadyIn.cons rfl (fun K hK => ?_) (AllReadyIn.cons rfl (fun K hK => ?_) AllReadyIn.nil)
  · go_simp
    refine hK _ _ ?_
    clear hK K
    refine wpAnyIn_ready (rs := [5, 12]) (by kernel_rfl) (by simp) ?_
    refine AllReadyIn.cons rfl (fun K hK => ?_) (AllReadyIn.cons rfl (fun K hK => ?_) AllReadyIn.nil)
    · go_simp
      refine ⟨trivial, ?_⟩
      refine (callsIn_wide.2 (m0.itoa li li co r1 hxB HW.out.1 HW.out.2)).mono ?_
      clear m0 hc1 hc2
      rintro e W5 ⟨rfl, m5, hc1, hc2⟩
      refine hK _ _ ?_
      clear hK K
      refine wpAnyIn_take (i := 6) (v := .string ⟨(atText li).toArray⟩) rfl rfl (by kernel_rfl) (by kernel_rfl) (by kernel_rfl) (fun _ _ _ h => h) ⟨Or.inl ⟨by rfl, by intro w; go_simp⟩, fun _ => rfl⟩ ?_
      refine wpAnyIn_take (i := 7) (v := .string ⟨(atText2 li).toArray⟩) rfl rfl (by kernel_rfl) (by kernel_rfl) (by kernel_rfl) (fun _ _ _ h => h) ⟨Or.inl ⟨by rfl, by intro w; go_simp⟩, fun _ => rfl⟩ ?_
      refine wpAnyIn_ready (rs := [12]) (by kernel_rfl) (by simp) ?_
      refine AllReadyIn.cons rfl (fun K hK => ?_) AllReadyIn.nil
      go_simp
      refine hK _ _ ?_
      clear hK K
      refine wpAnyIn_ready (rs := [13]) (by kernel_rfl) (by simp) ?_
      refine AllReadyIn.cons rfl (fun K hK => ?_) AllReadyIn.nil
      go_simp
      refine ⟨trivial, ?_⟩
      refine (callsIn_wide.2 (m5.itoa co li co r2 hxB HW.out.1 HW.out.2)).mono ?_
      clear m5 hc1 hc2
      rintro e W6 ⟨rfl, m6, hc1, hc2⟩
      refine hK _ _ ?_
      clear hK K
      refine wpAnyIn_take (i := 14) (v := .string ⟨(atText3 li co).toArray⟩) rfl rfl (by kernel_rfl) (by kernel_rfl) (by kernel_rfl) (fun _ _ _ h => h) ⟨Or.inl ⟨by rfl, by intro w; go_simp⟩, fun _ => rfl⟩ ?_
      refine wpAnyIn_ready (rs := [15]) (by kernel_rfl) (by simp) ?_
      refine AllReadyIn.cons rfl (fun K hK => ?_) AllReadyIn.nil
      go_simp
      refine ⟨trivial, ?_⟩
      refine (callsIn_wide.2 (WriteString_k _ _ _ _ _ m6.bd hwl m6.le)).mono ?_
      rintro e W7 ⟨rfl, hbd7, hkb7, hok7⟩
      refine hK _ _ ?_
      clear hK K
      refine wpAnyIn_done (by kernel_rfl) ?_ _
      refine ⟨rfl, ?_, m6.keeps.trans (keeps_of_others m6.bd hok7 hkb7), m6.below.trans hkb7⟩
      have h := hbd7
      rw [strCells_mk, byteCells_append] at h
      exact .inr h
    · go_simp
      refine hK _ _ ?_
      clear hK K
      refine wpAnyIn_ready (rs := [5]) (by kernel_rfl) (by simp) ?_
      refine AllReadyIn.cons rfl (fun K hK => ?_) AllReadyIn.nil
      go_simp
      refine ⟨trivial, ?_⟩
      refine (callsIn_wide.2 (m0.itoa li li co r1 hxB HW.out.1 HW.out.2)).mono ?_
      clear m0 hc1 hc2
      rintro e W5 ⟨rfl, m5, hc1, hc2⟩
      refine hK _ _ ?_
      clear hK K
      refine wpAnyIn_take (i := 6) (v := .string ⟨(atText li).toArray⟩) rfl rfl (by kernel_rfl) (by kernel_rfl) (by kernel_rfl) (fun _ _ _ h => h) ⟨Or.inl ⟨by rfl, by intro w; go_simp⟩, fun _ => rfl⟩ ?_
      refine wpAnyIn_take (i := 7) (v := .string ⟨(atText2 li).toArray⟩) rfl rfl (by kernel_rfl) (by kernel_rfl) (by kernel_rfl) (fun _ _ _ h => h) ⟨Or.inl ⟨by rfl, by intro w; go_simp⟩, fun _ => rfl⟩ ?_
      refine wpAnyIn_ready (rs := [13]) (by kernel_rfl) (by simp) ?_
      refine AllReadyIn.cons rfl (fun K hK => ?_) AllReadyIn.nil
      go_simp
      refine ⟨trivial, ?_⟩
      refine (callsIn_wide.2 (m5.itoa co li co r2 hxB HW.out.1 HW.out.2)).mono ?_
      clear m5 hc1 hc2
      rintro e W6 ⟨rfl, m6, hc1, hc2⟩
      refine hK _ _ ?_
      clear hK K
      refine wpAnyIn_take (i := 14) (v := .string ⟨(atText3 li co).toArray⟩) rfl rfl (by kernel_rfl) (by kernel_rfl) (by kernel_rfl) (fun _ _ _ h => h) ⟨Or.inl ⟨by rfl, by intro w; go_simp⟩, fun _ => rfl⟩ ?_
      refine wpAnyIn_ready (rs := [15]) (by kernel_rfl) (by simp) ?_
      refine AllReadyIn.cons rfl (fun K hK => ?_) AllReadyIn.nil
      go_simp
      refine ⟨trivial, ?_⟩
      refine (callsIn_wide.2 (WriteString_k _ _ _ _ _ m6.bd hwl m6.le)).mono ?_
      rintro e W7 ⟨rfl, hbd7, hkb7, hok7⟩
      refine hK _ _ ?_
      clear hK K
      refine wpAnyIn_done (by kernel_rfl) ?_ _
      refine ⟨rfl, ?_, m6.keeps.trans (keeps_of_others m6.bd hok7 hkb7), m6.below.trans hkb7⟩
      have h := hbd7
      rw [strCells_mk, byteCells_append] at h
      exact .inr h
  · go_simp
    refine hK _ _ ?_
    clear hK K
    refine wpAnyIn_ready (rs := [4]) (by kernel_rfl) (by simp) ?_
    refine AllReadyIn.cons rfl (fun K hK => ?_) AllReadyIn.nil
    go_simp
    refine hK _ _ ?_
    clear hK K
    refine wpAnyIn_ready (rs := [5]) (by kernel_rfl) (by simp) ?_
    refine AllReadyIn.cons rfl (fun K hK => ?_) AllReadyIn.nil
    go_simp
    refine ⟨trivial, ?_⟩
    refine (callsIn_wide.2 (m0.itoa li li co r1 hxB HW.out.1 HW.out.2)).mono ?_
    clear m0 hc1 hc2
    rintro e W5 ⟨rfl, m5, hc1, hc2⟩
    refine hK _ _ ?_
    clear hK K
    refine wpAnyIn_take (i := 6) (v := .string ⟨(atText li).toArray⟩) rfl rfl (by kernel_rfl) (by kernel_rfl) (by kernel_rfl) (fun _ _ _ h => h) ⟨Or.inl ⟨by rfl, by intro w; go_simp⟩, fun _ => rfl⟩ ?_
    refine wpAnyIn_take (i := 7) (v := .string ⟨(atText2 li).toArray⟩) rfl rfl (by kernel_rfl) (by kernel_rfl) (by kernel_rfl) (fun _ _ _ h => h) ⟨Or.inl ⟨by rfl, by intro w; go_simp⟩, fun _ => rfl⟩ ?_
    refine wpAnyIn_ready (rs := [13]) (by kernel_rfl) (by simp) ?_
    refine AllReadyIn.cons rfl (fun K hK => ?_) AllReadyIn.nil
    go_simp
    refine ⟨trivial, ?_⟩
    refine (callsIn_wide.2 (m5.itoa co li co r2 hxB HW.out.1 HW.out.2)).mono ?_
    clear m5 hc1 hc2
    rintro e W6 ⟨rfl, m6, hc1, hc2⟩
    refine hK _ _ ?_
    clear hK K
    refine wpAnyIn_take (i := 14) (v := .string ⟨(atText3 li co).toArray⟩) rfl rfl (by kernel_rfl) (by kernel_rfl) (by kernel_rfl) (fun _ _ _ h => h) ⟨Or.inl ⟨by rfl, by intro w; go_simp⟩, fun _ => rfl⟩ ?_
    refine wpAnyIn_ready (rs := [15]) (by kernel_rfl) (by simp) ?_
    refine AllReadyIn.cons rfl (fun K hK => ?_) AllReadyIn.nil
    go_simp
    refine ⟨trivial, ?_⟩
    refine (callsIn_wide.2 (WriteString_k _ _ _ _ _ m6.bd hwl m6.le)).mono ?_
    rintro e W7 ⟨rfl, hbd7, hkb7, hok7⟩
    refine hK _ _ ?_
    clear hK K
    refine wpAnyIn_done (by kernel_rfl) ?_ _
    refine ⟨rfl, ?_, m6.keeps.trans (keeps_of_others m6.bd hok7 hkb7), m6.below.trans hkb7⟩
    have h := hbd7
    rw [strCells_mk, byteCells_append] at h
    exact .inr h
end Go.Proofs.YtiidgekembgdcaaDoor
