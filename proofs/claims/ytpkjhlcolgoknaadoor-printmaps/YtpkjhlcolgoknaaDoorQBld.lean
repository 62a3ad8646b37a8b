/- (*strings.Builder).WriteString, WriteByte, String by contracts over lists of bytes. -/
import Derived.Test.YtpkjhlcolgoknaaDoorFBuild
import Derived.Test.YtpkjhlcolgoknaaDoorQPure
import Derived.Lib.FrozenHead2
import Derived.Lib.OwnKind
namespace Go.Proofs.YtpkjhlcolgoknaaDoor.Prn
set_option linter.unusedVariables false
set_option maxRecDepth 100000
open Go.RowKit Go.Shelf Go.Lib

theorem bapp (l r : List UInt8) : (⟨l.toArray⟩ : ByteArray) ++ ⟨r.toArray⟩ = ⟨(l ++ r).toArray⟩ := by rw [ByteArray.mk_append_mk]
/-- A builder at the block 'b' that holds these bytes; it and its buffer lie from the block 'B' on. -/
def Bld (w : World) (B b : Nat) (l : List UInt8) : Prop := IsBuilderF 46 5 B b (byteCells l) w ∧ B ≤ w.heap.size
theorem Bld.next {w w' : World} {B b : Nat} {l : List UInt8} (h : Bld w B b l) (hb : Below w.heap.size w w') : Bld w' B b l := by
  have hg : w.grownBy w' none := ⟨hb.os, hb.tape, hb.output, hb.size, fun i hi _ => hb.block i hi⟩
  refine ⟨?_, Nat.le_trans h.2 hb.size⟩
  rcases h.1 with h | h
  · have hlt := h.lt
    obtain ⟨hB, v, hbk, hown, hne⟩ := h
    exact .inl ⟨hB, v, (hb.block b hlt).trans hbk, hown.kept hg (by cases hv : v.ownBlock <;> simp), hne⟩
  · have hlt := h.lt
    obtain ⟨hB, v, hbk, hown, hne⟩ := h
    exact .inr ⟨hB, v, (hb.block b hlt).trans hbk, hown.kept hg (by cases hv : v.ownBlock <;> simp), hne⟩
theorem Bld.fresh (w : World) : Bld (w.alloc (.cells #[.pointer none, .slice none 0 0] 46)) w.heap.size w.heap.size [] :=
  ⟨.inl ⟨Nat.le_refl _, .slice none 0 0, heap_alloc_new w _, ⟨rfl, .inl ⟨rfl, rfl⟩⟩, by simp [Value.ownBlock]⟩, by simp⟩
theorem strCells_mk (l : List UInt8) : strCells ⟨l.toArray⟩ = byteCells l := by simp [strCells, byteCells]
theorem byteCells_append (a b : List UInt8) : byteCells a ++ byteCells b = byteCells (a ++ b) := by simp [byteCells]
/-- A text written behind. -/
theorem ws_any (B b : Nat) (l s : List UInt8) (w : World) (h : Bld w B b l) (hlen : l.length + s.length ≤ 1073741824) :
    Calls Tryd.prog 17 #[.pointer (some ⟨b, 0, none⟩), .string ⟨s.toArray⟩] w fun e w' => e = .returned (.tuple #[.int .i64 s.length, .nilIface]) ∧ Bld w' B b (l ++ s) ∧ Below B w w' := by
  refine (Flt.WriteString_k B b (byteCells l) ⟨s.toArray⟩ w h.1 (by rw [byteCells_length]; show l.length + s.toArray.size ≤ _; simp; omega) h.2).mono ?_
  rintro e w' ⟨rfl, h1, h2, _⟩
  rw [strCells_mk, byteCells_append] at h1
  refine ⟨?_, ⟨.inr h1, Nat.le_trans h.2 h2.size⟩, h2⟩
  show Ending.returned (.tuple #[.int .i64 (s.toArray.size : Nat), .nilIface]) = _
  simp
set_option maxHeartbeats 2000000 in
theorem wb_kept (B b : Nat) (l : List UInt8) (c : UInt8) (w : World) (hb : Bld w B b l) (hlen : l.length ≤ 1073741824) :
    Calls Tryd.prog 23 #[.pointer (some ⟨b, 0, none⟩), .int .u8 (c.toNat : Int)] w fun e w' => e = .returned .nilIface ∧ Bld w' B b (l ++ [c]) ∧ Below B w w' ∧ OthersKept 5 (some b) w w' := by
  obtain ⟨h, hBw⟩ := hb
  obtain ⟨i0, hi, hz0, hz1, hz2⟩ := info_parts Flt.infoByte
  have hbl := byteCells_length l
  have hbe : byteCells (l ++ [c]) = byteCells l ++ [.int .u8 (c.toNat : Int)] := by simp [byteCells]
  have HBE : Hid (byteCells (l ++ [c]) = byteCells l ++ [.int .u8 (c.toNat : Int)]) := hbe
  clear hbe
  generalize (c.toNat : Int) = ci at HBE
  go_enter Tryd.func23, Tryd.ntmps23
  go_wp2_with (go_at_call 30; refine (Flt.copyCheck_k B b _ _ h).mono ?_)
  rintro e w1 ⟨rfl, h1, hb1, hk1⟩
  obtain ⟨hB, v, hbk, hown, hne⟩ := h1
  have c0 : w1.cell? ⟨b, 0, none⟩ = some (.pointer (some ⟨b, 0, none⟩)) := by rw [cell_of_heap hbk]; rfl
  have c1 : w1.cell? ⟨b, 1, none⟩ = some v := by rw [cell_of_heap hbk]; rfl
  go_wp2_with (at_builtin; refine wpList_append_ownF _ rfl _ _ 44 rfl B 5 i0 (.int .u8 0) 1 1 Tryd.underlying44 hi hz0 hz1 hz2 rfl (by decide) _ _ _ rfl (hown.alloc _) ⟨w1.heap.size, 0, none⟩ 1 1 [.int .u8 ci] rfl rfl ?c1 ?c2 ?c3 ?c4 ?c5 ?_)
  case c1 =>
    intro j u hj
    match j, hj with
    | 0, hj => simp at hj; subst hj; simp [Addr.add]
  case c2 => intro u hu; simp at hu; subst hu; rfl
  case c3 => unfold maxLen; omega
  case c4 => omega
  case c5 => have := hb1.size; simp; omega
  intro v' w2 hown' hgrow _
  have hlt : b < w1.heap.size := by
    rcases Nat.lt_or_ge b w1.heap.size with h' | h'
    · exact h'
    · simp [Array.getElem?_eq_none h'] at hbk
  have hb2 : w2.heap[b]? = some (.cells #[.pointer (some ⟨b, 0, none⟩), v] 46 (0, 0)) := by
    rw [hgrow.block b (by simp; omega) (fun e => hne e.symm), alloc_old w1 _ b hlt]
    exact hbk
  have d0 : w2.cell? ⟨b, 0, none⟩ = some (.pointer (some ⟨b, 0, none⟩)) := by rw [cell_of_heap hb2]; rfl
  have d1 : w2.cell? ⟨b, 1, none⟩ = some v := by rw [cell_of_heap hb2]; rfl
  have f1 : w2.frozen? ⟨b, 1, none⟩ = false := frozen_of_heap hb2 1
  obtain ⟨g, cap, rfl⟩ : ∃ g cap, v' = .slice (some ⟨g, 0, none⟩) (l.length + 1) cap := by
    rcases hown'.2 with ⟨_, h0⟩ | ⟨g, cap, cur, fz, hv, _⟩
    · omega
    · exact ⟨g, cap, hv⟩
  have hbb := ((hb1.alloc (by have := hb1.size; omega) _).grown hgrow (by have := hb1.size; simp; omega) (fun k hk => (hown.lt k hk).1)).setCell (p := ⟨b, 1, none⟩) hB (.slice (some ⟨g, 0, none⟩) (l.length + 1) cap)
  have hkk := ((hk1.alloc _).grown hgrow (ownsRowF_kind (hown.alloc _))).setCell ⟨b, 1, none⟩ rfl (.slice (some ⟨g, 0, none⟩) (l.length + 1) cap)
  go_wp2
  go_ret
  refine ⟨rfl, ⟨.inr ?_, by simpa using Nat.le_trans hBw hbb.size⟩, hbb, hkk⟩
  rw [HBE.out]
  exact BuilderAtF.put (T := 46) (e := 5) hB hb2 (bs' := byteCells l ++ [.int .u8 ci]) (by rw [List.length_append, hbl]; exact hown') (by decide)
theorem wb_any (B b : Nat) (l : List UInt8) (c : UInt8) (w : World) (hb : Bld w B b l) (hlen : l.length ≤ 1073741824) :
    Calls Tryd.prog 23 #[.pointer (some ⟨b, 0, none⟩), .int .u8 (c.toNat : Int)] w fun e w' => e = .returned .nilIface ∧ Bld w' B b (l ++ [c]) ∧ Below B w w' :=
  (wb_kept B b l c w hb hlen).mono fun e w' ⟨h1, h2, h3, _⟩ => ⟨h1, h2, h3⟩
/-- A block of another type, and no builder, is kept beside a builder that is written. -/
theorem kept_block {w w' : World} {B b q : Nat} {l : List UInt8} {T : TypeId} {cs : Array Value} (hk : OthersKept 5 (some b) w w') (hB : Bld w B b l) (h : w.heap[q]? = some (.cells cs T (0, 0))) (h5 : T ≠ 5) (hT : T ≠ 46) : w'.heap[q]? = some (.cells cs T (0, 0)) := by
  refine hk q _ h (fun hc => ?_) (fun c fz he => h5 (by injection he))
  injection hc with hc
  subst hc
  rcases hB.1 with ⟨_, v, hb, _⟩ | ⟨_, v, hb, _⟩
  · rw [h] at hb; exact hT (by injection hb with hb; injection hb)
  · rw [h] at hb; exact hT (by injection hb with hb; injection hb)
theorem str_any (B b : Nat) (l : List UInt8) (w : World) (h : Bld w B b l) :
    Calls Tryd.prog 19 #[.pointer (some ⟨b, 0, none⟩)] w fun e w' => e = .returned (.string ⟨l.toArray⟩) ∧ Below B w w' :=
  (Tryd.Builder_String_any_k B b l w h.1 h.2).mono fun e w' ⟨h1, _, h2, _⟩ => ⟨h1, h2⟩
end Go.Proofs.YtpkjhlcolgoknaaDoor.Prn
