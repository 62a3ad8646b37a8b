/- Rows of bytes that a call owns, whatever mark stands behind their cells; append onto such a row. -/
import Derived.Lib.FrozenHead
import Derived.Lib.ConvBytes
import Derived.Lib.SmallJoins
import Derived.Lib.SlBytesRow
import Derived.Lib.OwnKind
import Derived.RowKit
namespace Go.Proofs.YtpkjhlcolgoknaaDoor.Prn
set_option linter.unusedVariables false
set_option maxRecDepth 100000
open Go.RowKit Go.Lib

/-- None of these cells is frozen. -/
def NoFz (n : Nat) (fz : Nat × Nat) : Prop := ∀ j, j < n → ¬ (fz.1 ≤ j ∧ j < fz.2)
/-- The slice 'v' owns these cells, one a byte; its block's mark lies behind its cells. -/
def RowM (w : World) (B : Nat) (v : Value) (xs : List Value) : Prop :=
  ∃ g cap cur fz, v = .slice (some ⟨g, 0, none⟩) xs.length cap ∧ B ≤ g ∧ w.heap[g]? = some (.cells cur 5 fz) ∧ NoFz cur.size fz ∧ xs.length ≤ cap ∧ cap ≤ maxLen ∧ cur.size = cap ∧ cur.toList.take xs.length = xs
theorem RowM.lt {w : World} {B : Nat} {v : Value} {xs : List Value} (h : RowM w B v xs) : ∀ k, v.ownBlock = some k → B ≤ k ∧ k < w.heap.size := by
  obtain ⟨g, cap, cur, fz, rfl, hB, hg, _⟩ := h
  intro k hk
  simp [Value.ownBlock] at hk
  subst hk
  exact ⟨hB, (Array.getElem?_eq_some_iff.1 hg).1⟩
theorem RowM.same {w w' : World} {B : Nat} {v : Value} {xs : List Value} (h : RowM w B v xs) (hb : ∀ g, g < w.heap.size → w'.heap[g]? = w.heap[g]?) : RowM w' B v xs := by
  obtain ⟨g, cap, cur, fz, hv, hB, hg, hr⟩ := h
  exact ⟨g, cap, cur, fz, hv, hB, by rw [hb g (Array.getElem?_eq_some_iff.1 hg).1]; exact hg, hr⟩
theorem RowM.next {w w' : World} {B : Nat} {v : Value} {xs : List Value} (h : RowM w B v xs) (hb : Below w.heap.size w w') : RowM w' B v xs := h.same fun g hg => hb.block g hg
theorem RowM.cells {w : World} {B g : Nat} {v : Value} {xs : List Value} (h : RowM w B v xs) (hg : v.ownBlock = some g) : ∀ j u, xs[j]? = some u → w.cell? ((⟨g, 0, none⟩ : Addr).add j) = some u := by
  obtain ⟨g', cap, cur, fz, rfl, _, hgg, _, _, _, _, htake⟩ := h
  intro j u hu
  simp [Value.ownBlock] at hg
  subst hg
  rw [Addr.add_lit, Nat.zero_add, cell_of_row w g' j cur 5 fz hgg]
  rw [← htake, List.getElem?_take] at hu
  split at hu
  · simpa using hu
  · cases hu
/-- What '[]byte(s)' makes. -/
theorem RowM.made (w : World) (B : Nat) (hB : B ≤ w.heap.size) (l : List UInt8) (hl : l.length ≤ 1048576) : RowM (bytesWorld w 5 ⟨l.toArray⟩) B (.slice (some ⟨w.heap.size, 0, none⟩) l.length (grownCap w l.length 0 5)) (byteCells l) := by
  have hge := grownCap_ge w l.length 0 5
  have hm := grownCap_le_maxLen w l.length 0 5 (by unfold maxLen; omega)
  have hsz : (bytesCells w 5 ⟨l.toArray⟩).size = grownCap w l.length 0 5 := by
    unfold bytesCells
    simp only [Array.size_append, Array.size_map, Array.size_replicate]
    show l.toArray.size + (grownCap w l.toArray.size 0 5 - l.toArray.size) = _
    simp only [List.size_toArray]; omega
  refine ⟨w.heap.size, _, _, _, by rw [byteCells_length], hB, bytesWorld_at_new w 5 _, fun j hj hc => by omega, by rw [byteCells_length]; exact hge, hm, hsz, ?_⟩
  unfold bytesCells byteCells
  rw [Array.toList_append]
  simp
theorem bytes_below (w : World) (l : List UInt8) : Below w.heap.size w (bytesWorld w 5 ⟨l.toArray⟩) :=
  ⟨rfl, rfl, rfl, by rw [bytesWorld_size]; omega, fun i hi => bytesWorld_at_old w 5 _ i hi⟩
/-- Cells written one behind the other into a row, none of them frozen. -/
theorem storeCells_m (P : Program) (g o : Nat) (t : TypeId) (fz : Nat × Nat) : ∀ (vs : List Value) (i : Nat) (cur : Array Value) (w : World), w.heap[g]? = some (.cells cur t fz) → NoFz cur.size fz → o + i + vs.length ≤ cur.size → (∀ v ∈ vs, v.oneCell' = true) →
    (storeCells ⟨g, o, none⟩ vs i).run P w = .ok () (w.setRow g (cur.toList.take (o + i) ++ vs ++ cur.toList.drop (o + i + vs.length)).toArray)
  | [], i, cur, w, hg, _, _, _ => by
    simp only [storeCells, List.append_nil, List.length_nil, Nat.add_zero, List.take_append_drop, Array.toArray_toList]
    rw [setRow_self w g cur t fz hg]
    rfl
  | v :: rest, i, cur, w, hg, hfz, hl, h1 => by
    have hi : o + i < cur.size := by simp at hl; omega
    have hcell : w.cell? ⟨g, o + i, none⟩ = some cur[o + i] := by rw [cell_of_row w g (o + i) cur t fz hg]; simp [hi]
    have hfro : w.frozen? ⟨g, o + i, none⟩ = false := by
      have := hfz (o + i) hi
      obtain ⟨lo, hi'⟩ := fz
      simp only [World.frozen?, hg, Bool.and_eq_false_iff, decide_eq_false_iff_not]
      simp only at this
      omega
    have hst : (store ((⟨g, o, none⟩ : Addr).add i) v).run P w = .ok () (w.setRow g (cur.setIfInBounds (o + i) v)) := by
      rw [Addr.add_lit, run_store P w _ v _ (h1 v (by simp)), hcell]
      simp [hfro, setCell_eq_setRow w g (o + i) cur t fz v hg]
    have ih := storeCells_m P g o t fz rest (i + 1) (cur.setIfInBounds (o + i) v) (w.setRow g (cur.setIfInBounds (o + i) v)) (setRow_heap w g cur _ t _ hg) (by rw [Array.size_setIfInBounds]; exact hfz) (by simp at hl ⊢; omega) (fun x hx => h1 x (by simp [hx]))
    simp only [storeCells, Sem.run_bind, hst, Result.andThen_ok, ih, setRow_setRow]
    congr 3
    have e := list_seg_step cur.toList (o + i) v rest (by simp at hl ⊢; omega)
    simpa [Array.toList_setIfInBounds, Nat.add_assoc] using e
/-- Room is there: the row behind. -/
theorem RowM.room {w : World} {B g cap : Nat} {cur : Array Value} {fz : Nat × Nat} {xs news : List Value} (hB : B ≤ g) (hg : w.heap[g]? = some (.cells cur 5 fz)) (hfz : NoFz cur.size fz) (hcm : cap ≤ maxLen) (hcs : cur.size = cap) (htake : cur.toList.take xs.length = xs) (hroom : xs.length + news.length ≤ cap) :
    RowM (w.setRow g (cur.toList.take xs.length ++ news ++ cur.toList.drop (xs.length + news.length)).toArray) B (.slice (some ⟨g, 0, none⟩) (xs.length + news.length) cap) (xs ++ news) := by
  have hsz : (cur.toList.take xs.length ++ news ++ cur.toList.drop (xs.length + news.length)).toArray.size = cur.size := by
    simp only [List.size_toArray, List.length_append, List.length_take, List.length_drop, Array.length_toList]; omega
  refine ⟨g, cap, _, fz, by rw [List.length_append], hB, setRow_heap w g cur _ 5 _ hg, by rw [hsz]; exact hfz, by rw [List.length_append]; exact hroom, hcm, by rw [hsz]; exact hcs, ?_⟩
  rw [htake]
  exact List.take_left
variable {P : Program} (w : World)
/-- append of a slice's cells onto such a row. -/
theorem run_append_m (t ty : TypeId) (i : TypeInfo) (ht : P.underlying t = some (.slice 5)) (hi : P.info? 5 = some i) (hz : i.zero = some (.int .u8 0)) (hsize : i.size = 1) (hby : i.bytes = 1)
    (B : Nat) (v : Value) (xs : List Value) (hown : RowM w B v xs) (a : Addr) (m c : Nat) (news : List Value) (hl : news.length = m) (hnews : ∀ j u, news[j]? = some u → w.cell? (a.add j) = some u) (h1 : ∀ u ∈ news, u.oneCell' = true)
    (hbytes : xs.length + m ≤ 140737488355328) (hbase : B ≤ w.heap.size) :
    ∃ v' w', (Builtin.append_ #[t, t] ty #[v, .slice (some a) m c]).run P w = .ok v' w' ∧ RowM w' B v' (xs ++ news) ∧ w.grownBy w' v.ownBlock := by
  have hcells := fun g (hg : v.ownBlock = some g) => hown.cells hg
  obtain ⟨g, cap, cur, fz, rfl, hB, hg, hfz, hnc, hcm, hcs, htake⟩ := hown
  subst hl
  by_cases hroom : xs.length + news.length ≤ cap
  · have hf := run_firstCells_some (P := P) w 1 news.length a news.length c news (by simp) hnews
    have hst := storeCells_m P g xs.length 5 fz news 0 cur w hg hfz (by omega) h1
    simp only [Nat.add_zero] at hst
    refine ⟨_, _, ?_, RowM.room hB hg hfz hcm hcs htake hroom, ⟨rfl, rfl, rfl, by simp, fun k _ hk => setRow_other w g k _ (fun e => hk (by simp [Value.ownBlock, e]))⟩⟩
    simp [Builtin.append_, run_underlying ht, sizeOf, typeInfo, hi, hsize, Builtin.lenOf, hroom, hf, Addr.add_lit, hst]
  · have hr := run_append_grow (P := P) w t ty 5 i (.int .u8 0) ht hi hz ⟨g, 0, none⟩ xs.length cap xs (by rw [hsize]; omega) (hcells g rfl) a news.length c news (by rw [hsize]; omega) hnews (by omega) (by omega) (growslice_fits (bytes := i.bytes) (by omega) (by rw [hby]; omega))
    have hge := grownCap_ge w (xs.length + news.length) cap 5
    have hcm2 := grownCap_le_maxLen w (xs.length + news.length) cap 5 (by unfold maxLen; omega)
    refine ⟨_, _, hr, ⟨w.heap.size, _, _, (0, 0), by rw [List.length_append], hbase, heap_alloc_new w.drew _, fun j _ hc => by simp at hc, by rw [List.length_append]; exact hge, hcm2, ?_, ?_⟩, ⟨rfl, rfl, rfl, by simp, fun k hk _ => heap_alloc_old w.drew _ hk⟩⟩
    · have hz1 : (Value.int IntKind.u8 0).cells.size = 1 := rfl
      simp only [Array.size_append, List.size_toArray, size_zeroCells, hz1]
      omega
    · simp only [Array.toList_append, List.append_assoc]
      rw [← List.append_assoc]
      exact List.take_left
/-- The same of a text's bytes. -/
theorem run_append_m_string (t u ty : TypeId) (i : TypeInfo) (ht : P.underlying t = some (.slice 5)) (hu : P.underlying u = some .string) (hi : P.info? 5 = some i) (hz : i.zero = some (.int .u8 0)) (hsize : i.size = 1) (hby : i.bytes = 1)
    (B : Nat) (v : Value) (xs : List Value) (hown : RowM w B v xs) (s : ByteArray) (hbytes : xs.length + s.size ≤ 140737488355328) (hbase : B ≤ w.heap.size) :
    ∃ v' w', (Builtin.append_ #[t, u] ty #[v, .string s]).run P w = .ok v' w' ∧ RowM w' B v' (xs ++ strCells s) ∧ w.grownBy w' v.ownBlock := by
  have hcells := fun g (hg : v.ownBlock = some g) => hown.cells hg
  obtain ⟨g, cap, cur, fz, rfl, hB, hg, hfz, hnc, hcm, hcs, htake⟩ := hown
  have hsl := strCells_length s
  by_cases hroom : xs.length + s.size ≤ cap
  · have hf := run_firstCells_string (P := P) w 1 s
    have hst := storeCells_m P g xs.length 5 fz (strCells s) 0 cur w hg hfz (by omega) (strCells_oneCell s)
    simp only [Nat.add_zero] at hst
    have hrm := RowM.room (news := strCells s) hB hg hfz hcm hcs htake (by omega)
    rw [hsl] at hst hrm
    refine ⟨_, _, ?_, hrm, ⟨rfl, rfl, rfl, by simp, fun k _ hk => setRow_other w g k _ (fun e => hk (by simp [Value.ownBlock, e]))⟩⟩
    simp [Builtin.append_, run_underlying ht, run_underlying hu, sizeOf, typeInfo, hi, hsize, Builtin.lenOf, hroom, hf, Addr.add_lit, hst]
  · have hr := run_append_grow_string (P := P) w t u ty 5 i (.int .u8 0) ht hu hi hz ⟨g, 0, none⟩ xs.length cap xs (by rw [hsize]; omega) (hcells g rfl) s (by omega) (by omega) (growslice_fits (bytes := i.bytes) (by omega) (by rw [hby]; omega))
    have hge := grownCap_ge w (xs.length + s.size) cap 5
    have hcm2 := grownCap_le_maxLen w (xs.length + s.size) cap 5 (by unfold maxLen; omega)
    refine ⟨_, _, hr, ⟨w.heap.size, _, _, (0, 0), by rw [List.length_append, hsl], hbase, heap_alloc_new w.drew _, fun j _ hc => by simp at hc, by rw [List.length_append, hsl]; exact hge, hcm2, ?_, ?_⟩, ⟨rfl, rfl, rfl, by simp, fun k hk _ => heap_alloc_old w.drew _ hk⟩⟩
    · have hz1 : (Value.int IntKind.u8 0).cells.size = 1 := rfl
      simp only [Array.size_append, List.size_toArray, size_zeroCells, hz1]
      omega
    · simp only [Array.toList_append, List.append_assoc]
      rw [← List.append_assoc]
      exact List.take_left
/-- The operation, for the walk. -/
theorem wpList_append_m {ops : Array Oper} {rest : List Oper} {o : Oper} {ac : Act} {Q : Exit → Act → World → Prop} (hgd : o.guard = none) (sl x : Operand) (t : TypeId)
    (ho : o.op = .call { callee := .builtin .append, args := #[sl, x], argTypes := #[t, t] }) (i : TypeInfo) (ht : P.underlying t = some (.slice 5)) (hi : P.info? 5 = some i) (hz : i.zero = some (.int .u8 0)) (hsize : i.size = 1) (hby : i.bytes = 1)
    (B : Nat) (v : Value) (xs : List Value) (hs : ac.eval sl = v) (hown : RowM w B v xs) (a : Addr) (m c : Nat) (news : List Value) (hx : ac.eval x = .slice (some a) m c) (hl : news.length = m) (hnews : ∀ j u, news[j]? = some u → w.cell? (a.add j) = some u) (h1 : ∀ u ∈ news, u.oneCell' = true)
    (hbytes : xs.length + m ≤ 140737488355328) (hbase : B ≤ w.heap.size)
    (h : ∀ v' w', RowM w' B v' (xs ++ news) → w.grownBy w' v.ownBlock → wpList P ops Q rest (ac.put o.dst v') w') : wpList P ops Q (o :: rest) ac w := by
  refine wpList_plain hgd fun K hK => ?_
  obtain ⟨v', w', hr, h2, h3⟩ := run_append_m (P := P) w t o.type i ht hi hz hsize hby B v xs hown a m c news hl hnews h1 hbytes hbase
  unfold Oper.wp execOp
  simp only [ho, resolve, invoke, builtin, Sem.run_bind, Sem.run_pure, Result.andThen_ok, List.map_toArray, List.map_cons, List.map_nil, hs, hx, hr]
  exact hK _ _ (h v' w' h2 h3)
theorem wpList_append_m_string {ops : Array Oper} {rest : List Oper} {o : Oper} {ac : Act} {Q : Exit → Act → World → Prop} (hgd : o.guard = none) (sl x : Operand) (t u : TypeId)
    (ho : o.op = .call { callee := .builtin .append, args := #[sl, x], argTypes := #[t, u] }) (i : TypeInfo) (ht : P.underlying t = some (.slice 5)) (hu : P.underlying u = some .string) (hi : P.info? 5 = some i) (hz : i.zero = some (.int .u8 0)) (hsize : i.size = 1) (hby : i.bytes = 1)
    (B : Nat) (v : Value) (xs : List Value) (hs : ac.eval sl = v) (hown : RowM w B v xs) (s : ByteArray) (hx : ac.eval x = .string s)
    (hbytes : xs.length + s.size ≤ 140737488355328) (hbase : B ≤ w.heap.size)
    (h : ∀ v' w', RowM w' B v' (xs ++ strCells s) → w.grownBy w' v.ownBlock → wpList P ops Q rest (ac.put o.dst v') w') : wpList P ops Q (o :: rest) ac w := by
  refine wpList_plain hgd fun K hK => ?_
  obtain ⟨v', w', hr, h2, h3⟩ := run_append_m_string (P := P) w t u o.type i ht hu hi hz hsize hby B v xs hown s hbytes hbase
  unfold Oper.wp execOp
  simp only [ho, resolve, invoke, builtin, Sem.run_bind, Sem.run_pure, Result.andThen_ok, List.map_toArray, List.map_cons, List.map_nil, hs, hx, hr]
  exact hK _ _ (h v' w' h2 h3)
/-- The row's bytes, for a conversion. -/
theorem RowM.bytes {w : World} {B : Nat} {v : Value} {l : List UInt8} (h : RowM w B v (byteCells l)) : ∃ g cap, v = .slice (some ⟨g, 0, none⟩) l.length cap ∧ g < w.heap.size ∧ Bytes w g 0 ⟨l.toArray⟩ := by
  have hc := fun g (hg : v.ownBlock = some g) => h.cells hg
  have hlt := h.lt
  obtain ⟨g, cap, cur, fz, rfl, hB, hg, _⟩ := h
  refine ⟨g, cap, by rw [byteCells_length], (hlt g rfl).2, fun i hi => ?_⟩
  have hi' : i < l.length := hi
  have := hc g rfl i (.int .u8 (l[i].toNat : Int)) (by simp [byteCells, hi'])
  rw [Addr.add_lit] at this
  exact this
end Go.Proofs.YtpkjhlcolgoknaaDoor.Prn
