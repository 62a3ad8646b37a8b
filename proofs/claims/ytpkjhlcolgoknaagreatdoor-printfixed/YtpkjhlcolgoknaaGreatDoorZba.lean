/- Printing a venue, as plain functions of lists of bytes: lines, signs (no program in it); What parterrelaw5.told asks of printing, as plain facts; Rows of bytes that a call owns, whatever mark stands behind their cells; append onto such a row; strconv.AppendInt onto a row of bytes whatever its mark; print.fact by its contract: a word and its numbers. -/
import Derived.Test.YtpkjhlcolgoknaaGreatDoorVPure
import Derived.Lib.ItoaLen
import Derived.Lib.ItoaMem
import Derived.KernelRfl
import Derived.Lib.FrozenHead
import Derived.Lib.ConvBytes
import Derived.Lib.SmallJoins
import Derived.Lib.SlBytesRow
import Derived.Lib.OwnKind
import Derived.RowKit
import Derived.Test.YtpkjhlcolgoknaaGreatDoorVSl
import Derived.Test.YtpkjhlcolgoknaaGreatDoorShelf
import Derived.Lib.AppendIntMem
import Derived.Lib.BufferKept
import Derived.Lib.Walk
import Derived.Lib.ItoaWalk
import Derived.WalkKit
import Derived.BigCall
import Derived.Shelf.Unicode.PredsPay
namespace Go.Proofs.YtpkjhlcolgoknaaGreatDoor.Prn
set_option linter.unusedVariables false
set_option maxRecDepth 100000
open Go.Proofs.YtpkjhlcolgoknaaGreatDoor.Ven (Seat Pole Ven)

/-- Numbers, each behind a blank. -/
def numsL : List Int → List UInt8
  | [] => []
  | n :: r => 32 :: (Lib.itoa n ++ numsL r)
theorem numsL_append (a b : List Int) : numsL (a ++ b) = numsL a ++ numsL b := by
  induction a with
  | nil => rfl
  | cons n r ih => simp [numsL, ih]
theorem numsL_snoc (a : List Int) (n : Int) : numsL (a ++ [n]) = numsL a ++ [32] ++ Lib.itoa n := by
  rw [numsL_append]; simp [numsL]
/-- A word and its numbers. -/
def factL (w : List UInt8) (ns : List Int) : List UInt8 := w ++ numsL ns
def wordL (k : Int) : List UInt8 := if k = 0 then [115, 101, 97, 116] else if k = 1 then [119, 104, 101, 101, 108] else if k = 2 then [99, 111, 109, 112, 97, 110, 105, 111, 110] else [63]
def tGap : List UInt8 := [103, 97, 112]
def tRadius : List UInt8 := [114, 97, 100, 105, 117, 115]
def tKill : List UInt8 := [107, 105, 108, 108]
def tPole : List UInt8 := [112, 111, 108, 101]
def seatL (s : Seat) : List UInt8 := factL (wordL s.kind) [s.row, s.x, s.y]
def seatLn (s : Seat) : List UInt8 := seatL s ++ [10]
def killLn (S : List Seat) (k : Int) : List UInt8 := factL tKill [(S[k.toNat]!).row, (S[k.toNat]!).x] ++ [10]
def poleLn (p : Pole) : List UInt8 := factL tPole [p.x, p.y, p.r] ++ [10]
def headL (V : Ven) : List UInt8 := factL tGap [V.gap] ++ [10] ++ (factL tRadius [V.radius] ++ [10])
/-- The manifest of a venue. -/
def printL (V : Ven) : List UInt8 := headL V ++ V.seats.flatMap seatLn ++ V.kills.flatMap (killLn V.seats) ++ V.poles.flatMap poleLn
theorem flat_take {α : Type} (f : α → List UInt8) (l : List α) (i : Nat) (h : i < l.length) : (l.take (i + 1)).flatMap f = (l.take i).flatMap f ++ f l[i] := by
  rw [List.take_succ_eq_append_getElem h, List.flatMap_append]; simp
theorem flat_bound {α : Type} (f : α → List UInt8) (m : Nat) : ∀ (l : List α), (∀ x ∈ l, (f x).length ≤ m) → (l.flatMap f).length ≤ l.length * m
  | [], _ => by simp
  | x :: r, h => by
    have h1 := h x (by simp)
    have h2 := flat_bound f m r (fun y hy => h y (by simp [hy]))
    rw [List.flatMap_cons, List.length_append, List.length_cons, Nat.add_mul]; omega

def I64 (n : Int) : Prop := -9223372036854775808 ≤ n ∧ n ≤ 9223372036854775807
theorem itoa_len (n : Int) (hn : I64 n) : (Lib.itoa n).length ≤ 21 := Lib.itoa_length_le n hn.1 hn.2
theorem numsL_len : ∀ (ns : List Int), (∀ n ∈ ns, I64 n) → (numsL ns).length ≤ ns.length * 22
  | [], _ => by simp [numsL]
  | n :: r, h => by
    have h1 := itoa_len n (h n (by simp))
    have h2 := numsL_len r (fun y hy => h y (by simp [hy]))
    simp only [numsL, List.length_cons, List.length_append]; omega
theorem factL_len (w : List UInt8) (ns : List Int) (h : ∀ n ∈ ns, I64 n) : (factL w ns).length ≤ w.length + ns.length * 22 := by
  have := numsL_len ns h
  unfold factL; rw [List.length_append]; omega
theorem wordL_len (k : Int) : (wordL k).length ≤ 9 := by
  unfold wordL; split
  · decide
  · split
    · decide
    · split <;> decide
theorem seatL_len (s : Seat) (h0 : I64 s.row) (h1 : I64 s.x) (h2 : I64 s.y) : (seatL s).length ≤ 75 := by
  have := factL_len (wordL s.kind) [s.row, s.x, s.y] (by simp; exact ⟨h0, h1, h2⟩)
  have := wordL_len s.kind
  unfold seatL; simp at *; omega

/-- The sign of a seat that nobody has. -/
def freeL (k : Int) : UInt8 := if k = 1 then 119 else if k = 2 then 99 else 46
def signL (V : Ven) (own : List Int) (i : Nat) : UInt8 :=
  if (i : Int) ∈ V.kills then 120 else if 0 < own.getD i 0 then 35 else if own.getD i 0 < 0 then 45 else freeL (V.seats[i]!).kind
/-- What stands ahead of a seat's sign. -/
def frontL (V : Ven) (i : Nat) : List UInt8 :=
  if i = 0 then Lib.itoa (V.seats[i]!).row ++ [32] else if (V.seats[i]!).row = (V.seats[i - 1]!).row then [] else 10 :: (Lib.itoa (V.seats[i]!).row ++ [32])
def mapTo (V : Ven) (own : List Int) (n : Nat) : List UInt8 := (List.range n).flatMap fun i => frontL V i ++ [signL V own i]
theorem mapTo_zero (V : Ven) (own : List Int) : mapTo V own 0 = [] := rfl
theorem mapTo_succ (V : Ven) (own : List Int) (n : Nat) : mapTo V own (n + 1) = mapTo V own n ++ frontL V n ++ [signL V own n] := by
  unfold mapTo; rw [List.range_succ, List.flatMap_append]; simp
/-- The map of a venue. -/
def mapL (V : Ven) (own : List Int) : List UInt8 := mapTo V own V.seats.length ++ [10]
theorem frontL_len (V : Ven) (i : Nat) (h : I64 (V.seats[i]!).row) : (frontL V i).length ≤ 23 := by
  have := itoa_len _ h
  unfold frontL; split
  · rw [List.length_append, List.length_singleton]; omega
  · split
    · simp
    · rw [List.length_cons, List.length_append, List.length_singleton]; omega
end Go.Proofs.YtpkjhlcolgoknaaGreatDoor.Prn

namespace Go.Proofs.YtpkjhlcolgoknaaGreatDoor.Prn
set_option linter.unusedVariables false
set_option maxRecDepth 100000
open Go.Proofs.YtpkjhlcolgoknaaGreatDoor.Ven (Seat Pole Ven mayB)

def V5 : Ven := ⟨[⟨0, 5, 6, 0⟩, ⟨1, 3, -4, 1⟩, ⟨1, 4, 0, 0⟩], 2, 1, [2], [⟨1, 2, 3⟩]⟩
def Z5 : Ven := ⟨[], 0, 0, [], []⟩
theorem may_V5 : mayB V5 = true := by kernel_rfl
theorem may_Z5 : mayB Z5 = false := by kernel_rfl
theorem it0 : Lib.itoa 0 = [48] := by have := Lib.itoa_nonneg 0; rw [Lib.decDigits_one (by omega)] at this; exact this
theorem it1 : Lib.itoa 1 = [49] := by have := Lib.itoa_nonneg 1; rw [Lib.decDigits_one (by omega)] at this; exact this
theorem it2 : Lib.itoa 2 = [50] := by have := Lib.itoa_nonneg 2; rw [Lib.decDigits_one (by omega)] at this; exact this
theorem it3 : Lib.itoa 3 = [51] := by have := Lib.itoa_nonneg 3; rw [Lib.decDigits_one (by omega)] at this; exact this
theorem it4 : Lib.itoa 4 = [52] := by have := Lib.itoa_nonneg 4; rw [Lib.decDigits_one (by omega)] at this; exact this
theorem it5 : Lib.itoa 5 = [53] := by have := Lib.itoa_nonneg 5; rw [Lib.decDigits_one (by omega)] at this; exact this
theorem it6 : Lib.itoa 6 = [54] := by have := Lib.itoa_nonneg 6; rw [Lib.decDigits_one (by omega)] at this; exact this
theorem itm4 : Lib.itoa (-4) = [45, 52] := by have := Lib.itoa_neg 4 (by omega); rw [Lib.decDigits_one (by omega)] at this; exact this
theorem print_V5 : printL V5 = [103, 97, 112, 32, 50, 10, 114, 97, 100, 105, 117, 115, 32, 49, 10, 115, 101, 97, 116, 32, 48, 32, 53, 32, 54, 10, 119, 104, 101, 101, 108, 32, 49, 32, 51, 32, 45, 52, 10, 115, 101, 97, 116, 32, 49, 32, 52, 32, 48, 10, 107, 105, 108, 108, 32, 49, 32, 52, 10, 112, 111, 108, 101, 32, 49, 32, 50, 32, 51, 10] := by
  simp [printL, V5, headL, seatLn, seatL, killLn, poleLn, factL, numsL, wordL, tGap, tRadius, tKill, tPole, it0, it1, it2, it3, it4, it5, it6, itm4]
theorem seat_9 : seatL ⟨0, 0, 0, 9⟩ = [63, 32, 48, 32, 48, 32, 48] := by
  simp [seatL, factL, numsL, wordL, it0]
theorem map_V5 : mapL V5 [0, 3] = [48, 32, 46, 10, 49, 32, 35, 120, 10] := by
  unfold mapL V5
  simp only [List.length_cons, List.length_nil, Nat.zero_add, Nat.reduceAdd, mapTo_succ, mapTo_zero]
  simp [frontL, signL, freeL, it0, it1]
theorem map_V5n : mapL V5 [] = [48, 32, 46, 10, 49, 32, 119, 120, 10] := by
  unfold mapL V5
  simp only [List.length_cons, List.length_nil, Nat.zero_add, Nat.reduceAdd, mapTo_succ, mapTo_zero]
  simp [frontL, signL, freeL, it0, it1]
end Go.Proofs.YtpkjhlcolgoknaaGreatDoor.Prn

namespace Go.Proofs.YtpkjhlcolgoknaaGreatDoor.Prn
set_option linter.unusedVariables false
set_option maxRecDepth 100000
open Go.RowKit Go.Lib

/-- None of these cells is frozen. -/
def NoFz (n : Nat) (fz : Nat × Nat) : Prop := ∀ j, j < n → ¬ (fz.1 ≤ j ∧ j < fz.2)
/-- The slice 'v' owns these cells, one a byte; its block's mark lies behind its cells. -/
def RowM (w : World) (B : Nat) (v : Value) (xs : List Value) : Prop :=
  ∃ g cap cur fz, v = .slice (some ⟨g, 0, none⟩) xs.length cap ∧ B ≤ g ∧ w.heap[g]? = some (.cells cur 5 fz) ∧ NoFz cur.size fz ∧ xs.length ≤ cap ∧ cap ≤ maxLen ∧ cur.size = cap ∧ cur.toList.take xs.length = xs
theorem RowM.lt {w : World} {B : Nat} {v : Value} {xs : List Value} (h : RowM w B v xs) : ∀ k, v.ownBlock = some k → B ≤ k ∧ k < w.heap.size := by
  obtain ⟨g, cap, cur, fz, rfl, hB, hg, _⟩ := h
  intro k hk
  simp [Value.ownBlock] at hk
  subst hk
  exact ⟨hB, (Array.getElem?_eq_some_iff.1 hg).1⟩
theorem RowM.same {w w' : World} {B : Nat} {v : Value} {xs : List Value} (h : RowM w B v xs) (hb : ∀ g, g < w.heap.size → w'.heap[g]? = w.heap[g]?) : RowM w' B v xs := by
  obtain ⟨g, cap, cur, fz, hv, hB, hg, hr⟩ := h
  exact ⟨g, cap, cur, fz, hv, hB, by rw [hb g (Array.getElem?_eq_some_iff.1 hg).1]; exact hg, hr⟩
theorem RowM.next {w w' : World} {B : Nat} {v : Value} {xs : List Value} (h : RowM w B v xs) (hb : Below w.heap.size w w') : RowM w' B v xs := h.same fun g hg => hb.block g hg
theorem RowM.cells {w : World} {B g : Nat} {v : Value} {xs : List Value} (h : RowM w B v xs) (hg : v.ownBlock = some g) : ∀ j u, xs[j]? = some u → w.cell? ((⟨g, 0, none⟩ : Addr).add j) = some u := by
  obtain ⟨g', cap, cur, fz, rfl, _, hgg, _, _, _, _, htake⟩ := h
  intro j u hu
  simp [Value.ownBlock] at hg
  subst hg
  rw [Addr.add_lit, Nat.zero_add, cell_of_row w g' j cur 5 fz hgg]
  rw [← htake, List.getElem?_take] at hu
  split at hu
  · simpa using hu
  · cases hu
/-- What '[]byte(s)' makes. -/
theorem RowM.made (w : World) (B : Nat) (hB : B ≤ w.heap.size) (l : List UInt8) (hl : l.length ≤ 1048576) : RowM (bytesWorld w 5 ⟨l.toArray⟩) B (.slice (some ⟨w.heap.size, 0, none⟩) l.length (grownCap w l.length 0 5)) (byteCells l) := by
  have hge := grownCap_ge w l.length 0 5
  have hm := grownCap_le_maxLen w l.length 0 5 (by unfold maxLen; omega)
  have hsz : (bytesCells w 5 ⟨l.toArray⟩).size = grownCap w l.length 0 5 := by
    unfold bytesCells
    simp only [Array.size_append, Array.size_map, Array.size_replicate]
    show l.toArray.size + (grownCap w l.toArray.size 0 5 - l.toArray.size) = _
    simp only [List.size_toArray]; omega
  refine ⟨w.heap.size, _, _, _, by rw [byteCells_length], hB, bytesWorld_at_new w 5 _, fun j hj hc => by omega, by rw [byteCells_length]; exact hge, hm, hsz, ?_⟩
  unfold bytesCells byteCells
  rw [Array.toList_append]
  simp
theorem bytes_below (w : World) (l : List UInt8) : Below w.heap.size w (bytesWorld w 5 ⟨l.toArray⟩) :=
  ⟨rfl, rfl, rfl, by rw [bytesWorld_size]; omega, fun i hi => bytesWorld_at_old w 5 _ i hi⟩
/-- Cells written one behind the other into a row, none of them frozen. -/
theorem storeCells_m (P : Program) (g o : Nat) (t : TypeId) (fz : Nat × Nat) : ∀ (vs : List Value) (i : Nat) (cur : Array Value) (w : World), w.heap[g]? = some (.cells cur t fz) → NoFz cur.size fz → o + i + vs.length ≤ cur.size → (∀ v ∈ vs, v.oneCell' = true) →
    (storeCells ⟨g, o, none⟩ vs i).run P w = .ok () (w.setRow g (cur.toList.take (o + i) ++ vs ++ cur.toList.drop (o + i + vs.length)).toArray)
  | [], i, cur, w, hg, _, _, _ => by
    simp only [storeCells, List.append_nil, List.length_nil, Nat.add_zero, List.take_append_drop, Array.toArray_toList]
    rw [setRow_self w g cur t fz hg]
    rfl
  | v :: rest, i, cur, w, hg, hfz, hl, h1 => by
    have hi : o + i < cur.size := by simp at hl; omega
    have hcell : w.cell? ⟨g, o + i, none⟩ = some cur[o + i] := by rw [cell_of_row w g (o + i) cur t fz hg]; simp [hi]
    have hfro : w.frozen? ⟨g, o + i, none⟩ = false := by
      have := hfz (o + i) hi
      obtain ⟨lo, hi'⟩ := fz
      simp only [World.frozen?, hg, Bool.and_eq_false_iff, decide_eq_false_iff_not]
      simp only at this
      omega
    have hst : (store ((⟨g, o, none⟩ : Addr).add i) v).run P w = .ok () (w.setRow g (cur.setIfInBounds (o + i) v)) := by
      rw [Addr.add_lit, run_store P w _ v _ (h1 v (by simp)), hcell]
      simp [hfro, setCell_eq_setRow w g (o + i) cur t fz v hg]
    have ih := storeCells_m P g o t fz rest (i + 1) (cur.setIfInBounds (o + i) v) (w.setRow g (cur.setIfInBounds (o + i) v)) (setRow_heap w g cur _ t _ hg) (by rw [Array.size_setIfInBounds]; exact hfz) (by simp at hl ⊢; omega) (fun x hx => h1 x (by simp [hx]))
    simp only [storeCells, Sem.run_bind, hst, Result.andThen_ok, ih, setRow_setRow]
    congr 3
    have e := list_seg_step cur.toList (o + i) v rest (by simp at hl ⊢; omega)
    simpa [Array.toList_setIfInBounds, Nat.add_assoc] using e
/-- Room is there: the row behind. -/
theorem RowM.room {w : World} {B g cap : Nat} {cur : Array Value} {fz : Nat × Nat} {xs news : List Value} (hB : B ≤ g) (hg : w.heap[g]? = some (.cells cur 5 fz)) (hfz : NoFz cur.size fz) (hcm : cap ≤ maxLen) (hcs : cur.size = cap) (htake : cur.toList.take xs.length = xs) (hroom : xs.length + news.length ≤ cap) :
    RowM (w.setRow g (cur.toList.take xs.length ++ news ++ cur.toList.drop (xs.length + news.length)).toArray) B (.slice (some ⟨g, 0, none⟩) (xs.length + news.length) cap) (xs ++ news) := by
  have hsz : (cur.toList.take xs.length ++ news ++ cur.toList.drop (xs.length + news.length)).toArray.size = cur.size := by
    simp only [List.size_toArray, List.length_append, List.length_take, List.length_drop, Array.length_toList]; omega
  refine ⟨g, cap, _, fz, by rw [List.length_append], hB, setRow_heap w g cur _ 5 _ hg, by rw [hsz]; exact hfz, by rw [List.length_append]; exact hroom, hcm, by rw [hsz]; exact hcs, ?_⟩
  rw [htake]
  exact List.take_left
variable {P : Program} (w : World)
/-- append of a slice's cells onto such a row. -/
theorem run_append_m (t ty : TypeId) (i : TypeInfo) (ht : P.underlying t = some (.slice 5)) (hi : P.info? 5 = some i) (hz : i.zero = some (.int .u8 0)) (hsize : i.size = 1) (hby : i.bytes = 1)
    (B : Nat) (v : Value) (xs : List Value) (hown : RowM w B v xs) (a : Addr) (m c : Nat) (news : List Value) (hl : news.length = m) (hnews : ∀ j u, news[j]? = some u → w.cell? (a.add j) = some u) (h1 : ∀ u ∈ news, u.oneCell' = true)
    (hbytes : xs.length + m ≤ 140737488355328) (hbase : B ≤ w.heap.size) :
    ∃ v' w', (Builtin.append_ #[t, t] ty #[v, .slice (some a) m c]).run P w = .ok v' w' ∧ RowM w' B v' (xs ++ news) ∧ w.grownBy w' v.ownBlock := by
  have hcells := fun g (hg : v.ownBlock = some g) => hown.cells hg
  obtain ⟨g, cap, cur, fz, rfl, hB, hg, hfz, hnc, hcm, hcs, htake⟩ := hown
  subst hl
  by_cases hroom : xs.length + news.length ≤ cap
  · have hf := run_firstCells_some (P := P) w 1 news.length a news.length c news (by simp) hnews
    have hst := storeCells_m P g xs.length 5 fz news 0 cur w hg hfz (by omega) h1
    simp only [Nat.add_zero] at hst
    refine ⟨_, _, ?_, RowM.room hB hg hfz hcm hcs htake hroom, ⟨rfl, rfl, rfl, by simp, fun k _ hk => setRow_other w g k _ (fun e => hk (by simp [Value.ownBlock, e]))⟩⟩
    simp [Builtin.append_, run_underlying ht, sizeOf, typeInfo, hi, hsize, Builtin.lenOf, hroom, hf, Addr.add_lit, hst]
  · have hr := run_append_grow (P := P) w t ty 5 i (.int .u8 0) ht hi hz ⟨g, 0, none⟩ xs.length cap xs (by rw [hsize]; omega) (hcells g rfl) a news.length c news (by rw [hsize]; omega) hnews (by omega) (by omega) (growslice_fits (bytes := i.bytes) (by omega) (by rw [hby]; omega))
    have hge := grownCap_ge w (xs.length + news.length) cap 5
    have hcm2 := grownCap_le_maxLen w (xs.length + news.length) cap 5 (by unfold maxLen; omega)
    refine ⟨_, _, hr, ⟨w.heap.size, _, _, (0, 0), by rw [List.length_append], hbase, heap_alloc_new w.drew _, fun j _ hc => by simp at hc, by rw [List.length_append]; exact hge, hcm2, ?_, ?_⟩, ⟨rfl, rfl, rfl, by simp, fun k hk _ => heap_alloc_old w.drew _ hk⟩⟩
    · have hz1 : (Value.int IntKind.u8 0).cells.size = 1 := rfl
      simp only [Array.size_append, List.size_toArray, size_zeroCells, hz1]
      omega
    · simp only [Array.toList_append, List.append_assoc]
      rw [← List.append_assoc]
      exact List.take_left
/-- The same of a text's bytes. -/
theorem run_append_m_string (t u ty : TypeId) (i : TypeInfo) (ht : P.underlying t = some (.slice 5)) (hu : P.underlying u = some .string) (hi : P.info? 5 = some i) (hz : i.zero = some (.int .u8 0)) (hsize : i.size = 1) (hby : i.bytes = 1)
    (B : Nat) (v : Value) (xs : List Value) (hown : RowM w B v xs) (s : ByteArray) (hbytes : xs.length + s.size ≤ 140737488355328) (hbase : B ≤ w.heap.size) :
    ∃ v' w', (Builtin.append_ #[t, u] ty #[v, .string s]).run P w = .ok v' w' ∧ RowM w' B v' (xs ++ strCells s) ∧ w.grownBy w' v.ownBlock := by
  have hcells := fun g (hg : v.ownBlock = some g) => hown.cells hg
  obtain ⟨g, cap, cur, fz, rfl, hB, hg, hfz, hnc, hcm, hcs, htake⟩ := hown
  have hsl := strCells_length s
  by_cases hroom : xs.length + s.size ≤ cap
  · have hf := run_firstCells_string (P := P) w 1 s
    have hst := storeCells_m P g xs.length 5 fz (strCells s) 0 cur w hg hfz (by omega) (strCells_oneCell s)
    simp only [Nat.add_zero] at hst
    have hrm := RowM.room (news := strCells s) hB hg hfz hcm hcs htake (by omega)
    rw [hsl] at hst hrm
    refine ⟨_, _, ?_, hrm, ⟨rfl, rfl, rfl, by simp, fun k _ hk => setRow_other w g k _ (fun e => hk (by simp [Value.ownBlock, e]))⟩⟩
    simp [Builtin.append_, run_underlying ht, run_underlying hu, sizeOf, typeInfo, hi, hsize, Builtin.lenOf, hroom, hf, Addr.add_lit, hst]
  · have hr := run_append_grow_string (P := P) w t u ty 5 i (.int .u8 0) ht hu hi hz ⟨g, 0, none⟩ xs.length cap xs (by rw [hsize]; omega) (hcells g rfl) s (by omega) (by omega) (growslice_fits (bytes := i.bytes) (by omega) (by rw [hby]; omega))
    have hge := grownCap_ge w (xs.length + s.size) cap 5
    have hcm2 := grownCap_le_maxLen w (xs.length + s.size) cap 5 (by unfold maxLen; omega)
    refine ⟨_, _, hr, ⟨w.heap.size, _, _, (0, 0), by rw [List.length_append, hsl], hbase, heap_alloc_new w.drew _, fun j _ hc => by simp at hc, by rw [List.length_append, hsl]; exact hge, hcm2, ?_, ?_⟩, ⟨rfl, rfl, rfl, by simp, fun k hk _ => heap_alloc_old w.drew _ hk⟩⟩
    · have hz1 : (Value.int IntKind.u8 0).cells.size = 1 := rfl
      simp only [Array.size_append, List.size_toArray, size_zeroCells, hz1]
      omega
    · simp only [Array.toList_append, List.append_assoc]
      rw [← List.append_assoc]
      exact List.take_left
/-- The operation, for the walk. -/
theorem wpList_append_m {ops : Array Oper} {rest : List Oper} {o : Oper} {ac : Act} {Q : Exit → Act → World → Prop} (hgd : o.guard = none) (sl x : Operand) (t : TypeId)
    (ho : o.op = .call { callee := .builtin .append, args := #[sl, x], argTypes := #[t, t] }) (i : TypeInfo) (ht : P.underlying t = some (.slice 5)) (hi : P.info? 5 = some i) (hz : i.zero = some (.int .u8 0)) (hsize : i.size = 1) (hby : i.bytes = 1)
    (B : Nat) (v : Value) (xs : List Value) (hs : ac.eval sl = v) (hown : RowM w B v xs) (a : Addr) (m c : Nat) (news : List Value) (hx : ac.eval x = .slice (some a) m c) (hl : news.length = m) (hnews : ∀ j u, news[j]? = some u → w.cell? (a.add j) = some u) (h1 : ∀ u ∈ news, u.oneCell' = true)
    (hbytes : xs.length + m ≤ 140737488355328) (hbase : B ≤ w.heap.size)
    (h : ∀ v' w', RowM w' B v' (xs ++ news) → w.grownBy w' v.ownBlock → wpList P ops Q rest (ac.put o.dst v') w') : wpList P ops Q (o :: rest) ac w := by
  refine wpList_plain hgd fun K hK => ?_
  obtain ⟨v', w', hr, h2, h3⟩ := run_append_m (P := P) w t o.type i ht hi hz hsize hby B v xs hown a m c news hl hnews h1 hbytes hbase
  unfold Oper.wp execOp
  simp only [ho, resolve, invoke, builtin, Sem.run_bind, Sem.run_pure, Result.andThen_ok, List.map_toArray, List.map_cons, List.map_nil, hs, hx, hr]
  exact hK _ _ (h v' w' h2 h3)
theorem wpList_append_m_string {ops : Array Oper} {rest : List Oper} {o : Oper} {ac : Act} {Q : Exit → Act → World → Prop} (hgd : o.guard = none) (sl x : Operand) (t u : TypeId)
    (ho : o.op = .call { callee := .builtin .append, args := #[sl, x], argTypes := #[t, u] }) (i : TypeInfo) (ht : P.underlying t = some (.slice 5)) (hu : P.underlying u = some .string) (hi : P.info? 5 = some i) (hz : i.zero = some (.int .u8 0)) (hsize : i.size = 1) (hby : i.bytes = 1)
    (B : Nat) (v : Value) (xs : List Value) (hs : ac.eval sl = v) (hown : RowM w B v xs) (s : ByteArray) (hx : ac.eval x = .string s)
    (hbytes : xs.length + s.size ≤ 140737488355328) (hbase : B ≤ w.heap.size)
    (h : ∀ v' w', RowM w' B v' (xs ++ strCells s) → w.grownBy w' v.ownBlock → wpList P ops Q rest (ac.put o.dst v') w') : wpList P ops Q (o :: rest) ac w := by
  refine wpList_plain hgd fun K hK => ?_
  obtain ⟨v', w', hr, h2, h3⟩ := run_append_m_string (P := P) w t u o.type i ht hu hi hz hsize hby B v xs hown s hbytes hbase
  unfold Oper.wp execOp
  simp only [ho, resolve, invoke, builtin, Sem.run_bind, Sem.run_pure, Result.andThen_ok, List.map_toArray, List.map_cons, List.map_nil, hs, hx, hr]
  exact hK _ _ (h v' w' h2 h3)
/-- The row's bytes, for a conversion. -/
theorem RowM.bytes {w : World} {B : Nat} {v : Value} {l : List UInt8} (h : RowM w B v (byteCells l)) : ∃ g cap, v = .slice (some ⟨g, 0, none⟩) l.length cap ∧ g < w.heap.size ∧ Bytes w g 0 ⟨l.toArray⟩ := by
  have hc := fun g (hg : v.ownBlock = some g) => h.cells hg
  have hlt := h.lt
  obtain ⟨g, cap, cur, fz, rfl, hB, hg, _⟩ := h
  refine ⟨g, cap, by rw [byteCells_length], (hlt g rfl).2, fun i hi => ?_⟩
  have hi' : i < l.length := hi
  have := hc g rfl i (.int .u8 (l[i].toNat : Int)) (by simp [byteCells, hi'])
  rw [Addr.add_lit] at this
  exact this
end Go.Proofs.YtpkjhlcolgoknaaGreatDoor.Prn

namespace Go.Proofs.YtpkjhlcolgoknaaGreatDoor.Prn
set_option linter.unusedVariables false
set_option maxRecDepth 100000
open Go.RowKit Go.Shelf Go.Lib Go.Sort
open Go.Proofs.YtpkjhlcolgoknaaGreatDoor.Ven (Sl intC Cells)

theorem infoByte : (Tryz.prog.info? 5).map (fun i => (i.zero, i.size, i.bytes)) = some (some (.int .u8 0), 1, 1) := by kernel_rfl
/-- The table of the powers of ten. -/
def Pow (w : World) : Prop := Lib.TabIs Tryz.prog w "internal/strconv.uint64pow10" .u64 Lib.pow10Tab
theorem powNamed : Tryz.prog.globalNamed "internal/strconv.uint64pow10" = some 1 := by kernel_rfl
theorem Pow.next {a b : World} (h : Pow a) (hb : Below a.heap.size a b) : Pow b := TabIs_below (g := 1) powNamed h hb
theorem Below.ext {B : Nat} {w w1 w2 : World} (h : Below B w w1) (hB : B ≤ w.heap.size) {row : Option Nat} (hg : w1.grownBy w2 row) (hr : ∀ k, row = some k → B ≤ k) : Below B w w2 := h.grown hg (by have := h.size; omega) hr
set_option maxHeartbeats 6400000 in
theorem uint_small (B u : Nat) (hu : u < 100) (v : Value) (xs : List Value) (w : World) (hown : RowM w B v xs) (hBw : B ≤ w.heap.size) (hlim : xs.length + 20 ≤ 140737488355328) :
    Calls Tryz.prog 130 #[v, .int .u64 u, .int .i64 10] w fun e w' => ∃ v', e = .returned v' ∧ RowM w' B v' (xs ++ byteCells (decDigits u)) ∧ Below B w w' := by
  obtain ⟨i0, hi, hz0, hz1, hz2⟩ := info_parts infoByte
  have hlen : (decDigits u).length ≤ 20 := by
    rw [decDigits_length]
    by_cases h10 : u < 10
    · rw [nDigits_small h10]; omega
    · rw [nDigits_big h10, nDigits_small (show u / 10 < 10 by omega)]; omega
  have hsz : (⟨(decDigits u).toArray⟩ : ByteArray).size = (decDigits u).length := by simp [ByteArray.size]
  have hsc : strCells ⟨(decDigits u).toArray⟩ = byteCells (decDigits u) := by simp [strCells, byteCells]
  go_enter Tryz.func130, Tryz.ntmps130
  go_wp2_with (first
    | (go_at_call 144; refine (Tryz.internal_strconv_small u hu _).mono ?_; rintro e w' ⟨rfl, rfl⟩)
    | (at_builtin; refine wpList_append_m_string _ rfl _ _ 51 9 rfl i0 Tryz.underlying51 Tryz.underlying9 hi hz0 hz1 hz2 B _ _ rfl hown ⟨(decDigits u).toArray⟩ rfl (by rw [hsz]; omega) hBw ?_))
  intro v' w1 hown' hgrow
  go_wp2
  go_ret
  exact ⟨v', rfl, hown', (Below.refl B _).grown hgrow hBw (fun k hk => (hown.lt k hk).1)⟩
set_option maxHeartbeats 12800000 in
theorem uint_big (B u : Nat) (hu : 100 ≤ u) (hu64 : u < 18446744073709551616) (v : Value) (xs : List Value) (w : World) (hown : RowM w B v xs) (hBw : B ≤ w.heap.size) (hlim : xs.length + 20 ≤ 140737488355328) (hpow : Pow w) :
    Calls Tryz.prog 130 #[v, .int .u64 u, .int .i64 10] w fun e w' => ∃ v', e = .returned v' ∧ RowM w' B v' (xs ++ byteCells (decDigits u)) ∧ Below B w w' := by
  obtain ⟨i0, hi, hz0, hz1, hz2⟩ := info_parts infoByte
  have hu1 : 1 ≤ u := by omega
  have hnd20 : nDigits u ≤ 20 := by have := numDigits_eq u hu1 hu64; split at this <;> omega
  have hal : Tryz.prog.arrayLen 207 = 24 := by simp [Program.arrayLen, Tryz.underlying207]
  have hsl : ∀ W, (Instr.sliceAt 207 (.pointer (some ⟨w.heap.size, 0, none⟩)) none (some (.int .i64 (nDigits u : Int))) none).run Tryz.prog W = .ok (.slice (some ⟨w.heap.size, 0, none⟩) (nDigits u) 24) W := fun W => by
    rw [run_sliceAt_array_h W 207 ⟨w.heap.size, 0, none⟩ (by simp [Program.arrayLen, Program.elem, Tryz.underlying207]) .i64 (nDigits u : Int) (by omega) (by rw [hal]; omega)]
    go_simp
  have hH0 := holds_zero0 w 207 (nDigits u) (by omega)
  have hfmt := Tryz.internal_strconv_formatBase10 w.heap.size 0 24 u (Array.replicate (nDigits u) 0) (w.alloc (.cells zeros24 207)) hH0 (by rw [Array.size_replicate]; exact lt_pow_nDigits u) hu64 (by rw [Array.size_replicate]; omega)
  rw [Array.size_replicate] at hfmt
  have HH0 := Lib.hid hH0
  have iu : (100 : Int) ≤ (u : Int) := by omega
  clear hH0 hal
  go_enter Tryz.func130, Tryz.ntmps130
  go_wp2_with (first
    | (go_at_call 145; refine (Tryz.internal_strconv_numDigits u hu1 hu64 _ (Lib.tabIs_alloc hpow _)).mono ?_; rintro e w' ⟨rfl, rfl⟩))
  go_at_call 146
  refine hfmt.mono ?_
  rintro e w' ⟨rfl, k, v', dk, rfl, hF⟩
  have hcells : ∀ j u', (byteCells (decDigits u))[j]? = some u' → ((putRow (fun (b : UInt8) => Value.int .u8 (b.toNat : Int)) (w.alloc (.cells zeros24 207)) w.heap.size 0 dk).drewN k).cell? ((⟨w.heap.size, 0, none⟩ : Addr).add j) = some u' := by
    intro j u' hj
    have hjl : j < (decDigits u).length := by
      have h5 := (List.getElem?_eq_some_iff.1 hj).1
      rwa [byteCells_length] at h5
    have e5 : (byteCells (decDigits u))[j]? = some (Value.int .u8 ((decDigits u)[j].toNat : Int)) := by simp [byteCells, hjl]
    rw [e5] at hj
    cases hj
    rw [row_is_numeral hF j hjl, add_plain, World.cell?_drewN]
    exact cell?_putRow (fun (b : UInt8) => Value.int .u8 (b.toNat : Int)) _ w.heap.size 0 _ dk HH0.out (by rw [hF.size, Array.size_replicate]) j (by rw [hF.size]; rw [decDigits_length] at hjl; exact hjl)
  obtain ⟨os, eo⟩ := fin_at w (.cells zeros24 207) dk k 0
  have hbb : Below w.heap.size w ((putRow (fun (b : UInt8) => Value.int .u8 (b.toNat : Int)) (w.alloc (.cells zeros24 207)) w.heap.size 0 dk).drewN k) := by rw [eo]; exact below_grow w.heap.size w (Nat.le_refl _) k os
  have hown2 := hown.next hbb
  have hnx2 : Below B w ((putRow (fun (b : UInt8) => Value.int .u8 (b.toNat : Int)) (w.alloc (.cells zeros24 207)) w.heap.size 0 dk).drewN k) := hbb.mono hBw
  have hsz2 : w.heap.size ≤ ((putRow (fun (b : UInt8) => Value.int .u8 (b.toNat : Int)) (w.alloc (.cells zeros24 207)) w.heap.size 0 dk).drewN k).heap.size := hbb.size
  generalize (putRow (fun (b : UInt8) => Value.int .u8 (b.toNat : Int)) (w.alloc (.cells zeros24 207)) w.heap.size 0 dk).drewN k = W2 at hcells hown2 hnx2 hsz2 ⊢
  clear eo HH0 hfmt hbb
  go_wp2_with (at_builtin; refine wpList_append_m _ rfl _ _ 51 rfl i0 Tryz.underlying51 hi hz0 hz1 hz2 B _ _ rfl hown2 ⟨w.heap.size, 0, none⟩ (nDigits u) 24 (byteCells (decDigits u)) rfl ?c0 hcells ?c2 ?c4 ?c5 ?_)
  case c0 => rw [byteCells_length, decDigits_length]
  case c2 => intro u' hu'; simp only [byteCells, List.mem_map] at hu'; obtain ⟨b, _, rfl⟩ := hu'; rfl
  case c4 => omega
  case c5 => omega
  intro v2 w3 hown' hgrow
  go_wp2
  go_ret
  exact ⟨v2, rfl, hown', hnx2.grown hgrow (by omega) (fun k hk => (hown2.lt k hk).1)⟩
theorem uint_any (B u : Nat) (hu64 : u < 18446744073709551616) (v : Value) (xs : List Value) (w : World) (hown : RowM w B v xs) (hBw : B ≤ w.heap.size) (hlim : xs.length + 20 ≤ 140737488355328) (hpow : Pow w) :
    Calls Tryz.prog 130 #[v, .int .u64 u, .int .i64 10] w fun e w' => ∃ v', e = .returned v' ∧ RowM w' B v' (xs ++ byteCells (decDigits u)) ∧ Below B w w' := by
  by_cases h : u < 100
  · exact uint_small B u h v xs w hown hBw hlim
  · exact uint_big B u (by omega) hu64 v xs w hown hBw hlim hpow
set_option maxHeartbeats 6400000 in
theorem int_any (B : Nat) (i : Int) (hi64 : I64 i) (v : Value) (xs : List Value) (w : World) (hown : RowM w B v xs) (hBw : B ≤ w.heap.size) (hlim : xs.length + 21 ≤ 140737488355328) (hpow : ∀ w', Below B w w' → Pow w') :
    Calls Tryz.prog 104 #[v, .int .i64 i, .int .i64 10] w fun e w' => ∃ v', e = .returned v' ∧ RowM w' B v' (xs ++ byteCells (itoa i)) ∧ Below B w w' := by
  obtain ⟨i0, hi, hz0, hz1, hz2⟩ := info_parts infoByte
  obtain ⟨h0, h1⟩ := hi64
  by_cases hneg : i < 0
  · obtain ⟨u, rfl⟩ : ∃ u : Nat, i = -(u : Int) := ⟨i.natAbs, by omega⟩
    have hu1 : 1 ≤ u := by omega
    have hu64 : u < 18446744073709551616 := by omega
    have hwr : IntKind.u64.wrap (-IntKind.u64.wrap (-(u : Int))) = (u : Int) := by rw [IntKind.wrap_u64, IntKind.wrap_u64]; omega
    rw [itoa_neg u hu1]
    have hal := hown.next ((Below.refl w.heap.size w).alloc (Nat.le_refl _) (.cells #[.int .u8 45] 5))
    go_enter Tryz.func104, Tryz.ntmps104
    go_wp2_with (at_builtin; refine wpList_append_m _ rfl _ _ 51 rfl i0 Tryz.underlying51 hi hz0 hz1 hz2 B _ _ rfl hal ⟨w.heap.size, 0, none⟩ 1 1 [Value.int .u8 45] rfl rfl (by intro j u' hj; match j, hj with | 0, hj => simp at hj; subst hj; simp [Addr.add]) (by intro u' hu'; simp at hu'; subst hu'; rfl) (by omega) (by simp; omega) ?_)
    intro v1 w1 hown1 hgrow
    have hnx1 : Below B w w1 := ((Below.refl B w).alloc hBw _).grown hgrow (by simp; omega) (fun k hk => (hown.lt k hk).1)
    go_wp2_with (go_at_call 130; refine (uint_any B u hu64 v1 _ w1 hown1 (by have := hnx1.size; omega) (by simp; omega) (hpow _ hnx1)).mono ?_; rintro e w2 ⟨v2, rfl, hown2, hnx2⟩)
    go_wp2
    go_ret
    refine ⟨v2, rfl, ?_, hnx1.trans hnx2⟩
    have e2 : xs ++ byteCells (45 :: decDigits u) = xs ++ [Value.int .u8 45] ++ byteCells (decDigits u) := by simp [byteCells]
    rw [e2]
    exact hown2
  · obtain ⟨u, rfl⟩ : ∃ u : Nat, i = u := ⟨i.toNat, by omega⟩
    have hu64 : u < 18446744073709551616 := by omega
    rw [itoa_nonneg]
    go_enter Tryz.func104, Tryz.ntmps104
    go_wp2_with (go_at_call 130; refine (uint_any B u hu64 v xs w hown hBw (by omega) (hpow _ (Below.refl _ _))).mono ?_; rintro e w2 ⟨v2, rfl, hown2, hnx2⟩)
    go_wp2
    first | go_ret | go_ret2
    exact ⟨v2, rfl, hown2, hnx2⟩
set_option maxHeartbeats 1000000 in
theorem appendInt_any (B : Nat) (i : Int) (hi64 : I64 i) (v : Value) (xs : List Value) (w : World) (hown : RowM w B v xs) (hBw : B ≤ w.heap.size) (hlim : xs.length + 21 ≤ 140737488355328) (hpow : ∀ w', Below B w w' → Pow w') :
    Calls Tryz.prog 72 #[v, .int .i64 i, .int .i64 10] w fun e w' => ∃ v', e = .returned v' ∧ RowM w' B v' (xs ++ byteCells (itoa i)) ∧ Below B w w' := by
  go_enter Tryz.func72, Tryz.ntmps72
  go_wp2_with (go_at_call 104; refine (int_any B i hi64 v xs w hown hBw hlim hpow).mono ?_; rintro e w2 ⟨v2, rfl, hown2, hnx2⟩)
  go_wp2
  go_ret
  exact ⟨v2, rfl, hown2, hnx2⟩
theorem cellsInt {w : World} {b off : Nat} {l : List Int} (h : Cells 1 intC w b off l) (k : Nat) (hk : k < l.length) : w.cell? ⟨b, off + k, none⟩ = some (.int .i64 l[k]) := by
  have := h.2 k hk 0 _ rfl
  simpa using this
set_option maxHeartbeats 4000000 in
/-- print.fact: a word and its numbers. -/
theorem fact_any (W : List UInt8) (hW : W.length ≤ 20) (ns : List Int) (hns : ∀ n ∈ ns, I64 n) (hl : ns.length ≤ 3) (b off cap : Nat) (w : World) (hC : Cells 1 intC w b off ns) (hp : Pow w) :
    Calls Tryz.prog 43 #[.string ⟨W.toArray⟩, .slice (some ⟨b, off, none⟩) ns.length cap] w fun e w' => e = .returned (.string ⟨(factL W ns).toArray⟩) ∧ Below w.heap.size w w' := by
  obtain ⟨i0, hi, hz0, hz1, hz2⟩ := info_parts infoByte
  have hcv := Go.Lib.run_convert_string_bytes (P := Tryz.prog) w 9 51 5 ⟨W.toArray⟩ Tryz.underlying9 Tryz.underlying51 Tryz.underlying5
  have HR0 : Hid (RowM (bytesWorld w 5 ⟨W.toArray⟩) w.heap.size (.slice (some ⟨w.heap.size, 0, none⟩) W.length (grownCap w W.length 0 5)) (byteCells W)) := RowM.made w w.heap.size (Nat.le_refl _) W (by omega)
  have HB0 : Hid (Below w.heap.size w (bytesWorld w 5 ⟨W.toArray⟩)) := bytes_below w W
  have HC : Hid (Cells 1 intC w b off ns) := hC
  have HP : Hid (Pow w) := hp
  have HN : Hid (∀ n ∈ ns, I64 n) := hns
  have hsz : (⟨W.toArray⟩ : ByteArray).size = W.length := rfl
  rw [hsz] at hcv
  clear hC hp hns hsz
  generalize bytesWorld w 5 ⟨W.toArray⟩ = w1 at hcv HR0 HB0
  generalize Value.slice (some ⟨w.heap.size, 0, none⟩) W.length (grownCap w W.length 0 5) = v0 at hcv HR0
  go_enter Tryz.func43, Tryz.ntmps43
  go_wp2
  clear hcv
  go_loopw [5, 12] (fun v i wr => ∃ k : Nat, k ≤ ns.length ∧ i = .int .i64 k ∧ Hid (RowM wr w.heap.size v (byteCells (W ++ numsL (ns.take k)))) ∧ Hid (Below w.heap.size w wr)) (fun _ i _ => ns.length - (intOf i).toNat)
  case atStart => exact ⟨0, Nat.zero_le _, rfl, by simpa [numsL] using HR0, HB0⟩
  case round =>
    obtain ⟨k, hk, rfl, HR, HB⟩ := hrel
    by_cases hlt : k < ns.length
    · have hltz : (k : Int) < (ns.length : Int) := by omega
      have hcell : wr.cell? ⟨b, off + k, none⟩ = some (.int .i64 ns[k]) := (HB.out.cell (p := ⟨b, off + k, none⟩) HC.out.1).trans (cellsInt HC.out k hlt)
      have hn : I64 ns[k] := HN.out _ (List.getElem_mem hlt)
      have hlen : (W ++ numsL (ns.take k)).length ≤ 100 := by
        have h1 := numsL_len (ns.take k) (fun n hn' => HN.out n (List.mem_of_mem_take hn'))
        rw [List.length_take] at h1
        rw [List.length_append]; omega
      have HX : Hid (W ++ numsL (ns.take (k + 1)) = W ++ numsL (ns.take k) ++ [32] ++ itoa ns[k]) := by
        show _ = _
        rw [List.take_succ_eq_append_getElem hlt, numsL_snoc]; simp
      generalize hz : ns[k] = z at hcell hn HX
      generalize W ++ numsL (ns.take k) = X at HR hlen HX
      clear hz
      have hsw := HB.out.size
      have HA : Hid (RowM (wr.alloc (.cells #[.int .u8 32] 5)) w.heap.size u5 (byteCells X)) := HR.out.next ((Below.refl wr.heap.size wr).alloc (Nat.le_refl _) _)
      have hbl := byteCells_length X
      go_wp2_with (at_builtin; refine wpList_append_m _ rfl _ _ 51 rfl i0 Tryz.underlying51 hi hz0 hz1 hz2 w.heap.size _ _ rfl HA.out ⟨wr.heap.size, 0, none⟩ 1 1 [Value.int .u8 32] rfl rfl (by intro j u' hj; match j, hj with | 0, hj => simp at hj; subst hj; simp [Addr.add]) (by intro u' hu'; simp at hu'; subst hu'; rfl) (by omega) (by simp; omega) ?_)
      intro v1 w2 hown1 hgrow
      have hb2 : Below w.heap.size w w2 := (HB.out.alloc HB.out.size _).grown hgrow (by simp; omega) (fun g hg => (HA.out.lt g hg).1)
      have HB2 : Hid (Below w.heap.size w w2) := hb2
      have hR2 : RowM w2 w.heap.size v1 (byteCells (X ++ [32])) := by
        have e : byteCells (X ++ [32]) = byteCells X ++ [Value.int .u8 32] := by simp [byteCells]
        rw [e]; exact hown1
      clear hown1 hgrow HA HR HB hb2
      go_wp2_with (go_at_call 72; refine (appendInt_any w.heap.size z hn v1 _ w2 hR2 HB2.out.size (by rw [byteCells_length]; simp; omega) (fun w' hb => HP.out.next (HB2.out.trans hb))).mono ?_; rintro e w3 ⟨v2, rfl, hR3, hb3⟩)
      go_roundw
      case rel =>
        refine ⟨k + 1, by omega, by go_num, ?_, HB2.out.trans hb3⟩
        rw [HX.out]
        have e : byteCells (X ++ [32] ++ itoa z) = byteCells (X ++ [32]) ++ byteCells (itoa z) := by simp [byteCells]
        rw [e]; exact hR3
      case measure => simp [intOf]; omega
    · have hltz : ¬ (k : Int) < (ns.length : Int) := by omega
      obtain ⟨g, cap', rfl, hgl, hby⟩ := HR.out.bytes
      have hcv := Lib.run_convert_whole (P := Tryz.prog) wr 51 5 9 Tryz.underlying51 Tryz.underlying5 Tryz.underlying9 g 0 ⟨(W ++ numsL (ns.take k)).toArray⟩ hby cap'
      have hsz : (⟨(W ++ numsL (ns.take k)).toArray⟩ : ByteArray).size = (W ++ numsL (ns.take k)).length := rfl
      rw [hsz] at hcv
      have HX : Hid (W ++ numsL (ns.take k) = factL W ns) := by
        show _ = _
        rw [List.take_of_length_le (by omega)]; rfl
      clear hby hsz HR
      generalize W ++ numsL (ns.take k) = X at hcv HX
      go_wp2
      go_ret
      exact ⟨congrArg (fun z : List UInt8 => Ending.returned (Value.string ⟨z.toArray⟩)) HX.out, HB.out⟩
end Go.Proofs.YtpkjhlcolgoknaaGreatDoor.Prn
