/- venue.sorted by its contract: the numbers of the seats, in an order of the seats. -/
import Derived.Test.YtgpkdjhllekihaaGreatDoorVMarks
import Derived.Test.YtgpkdjhllekihaaGreatDoorVClos
namespace Go.Proofs.YtgpkdjhllekihaaGreatDoor.Ven
set_option linter.unusedVariables false
set_option maxRecDepth 100000
open Go.RowKit Go.Shelf Go.Lib Go.Sort

theorem cmpS_lt (a b : Seat) : decide (cmpS a b < 0) = ltS a b := (ltS_cmp a b).symm
theorem swoS {n : Nat} (f : Fin n → Seat) : SWO (ltOf (fun i j : Fin n => cmpS (f i) (f j))) := {
 irrefl := fun i => by unfold ltOf; rw [cmpS_lt]; cases h : ltS (f i) (f i) with | false => rfl | true => (rw [ltS_iff] at h; omega)
 trans := fun i j k h1 h2 => by
  unfold ltOf at *; rw [cmpS_lt] at *; rw [ltS_iff] at *; omega
 ntrans := fun i j k h1 h2 => by
  unfold ltOf at *; rw [cmpS_lt] at *
  cases h : ltS (f i) (f k) with
  | false => rfl
  | true =>
   exfalso
   have n1 : ¬ ltS (f i) (f j) = true := by rw [h1]; simp
   have n2 : ¬ ltS (f j) (f k) = true := by rw [h2]; simp
   rw [ltS_iff] at h n1 n2; omega }
def encF (n : Nat) (i : Fin n) : Value := .int .i64 (i.val : Int)

/-- An order of the numbers below so many: each once, by their seats. -/
structure IsOrder (l : List Seat) (ord : List Nat) : Prop where
 perm : ord.Perm (List.range l.length)
 sorted : ord.Pairwise fun i j => ltS l[j]! l[i]! = false
theorem sortWorld_block {α : Type} [Inhabited α] (enc : α → Value) (w : World) (blk off m : Nat) (d : Array α) (os : Array Obj) (k : Nat) (hk : k < w.heap.size) (hne : k ≠ blk) : (sortWorld enc w blk off m d os).heap[k]? = w.heap[k]? := by
 unfold sortWorld
 rw [heap_grow_old _ _ (by simpa [putRow, mapBlock, Sort.ahead] using hk)]
 simp only [putRow, mapBlock, Sort.ahead, Array.getElem?_modify]
 rw [if_neg (fun h => hne h.symm)]
theorem sortWorld_size {α : Type} [Inhabited α] (enc : α → Value) (w : World) (blk off m : Nat) (d : Array α) (os : Array Obj) : w.heap.size ≤ (sortWorld enc w blk off m d os).heap.size := by
 unfold sortWorld
 rw [size_grow]
 simp [putRow, mapBlock, Sort.ahead]
theorem sortWorld_below {α : Type} [Inhabited α] (enc : α → Value) (w : World) (blk off m : Nat) (d : Array α) (os : Array Obj) (B : Nat) (hB : B ≤ blk) (hs : B ≤ w.heap.size) : Below B w (sortWorld enc w blk off m d os) :=
 {os := rfl, tape := rfl, output := rfl, size := sortWorld_size enc w blk off m d os, block := fun k hk => sortWorld_block enc w blk off m d os k (by omega) (by omega) }

theorem extract_all {α : Type} (a : Array α) (m : Nat) (h : a.size = m) : a.extract 0 m = a := by subst h; simp
/-- slices.SortFunc, over the numbers of the seats. -/
theorem sortFunc_any (l : List Seat) (n : Nat) (hn : l.length = n + 1) (hl : l.length ≤ 4096) (b off cap B g : Nat) (w : World) (hB : B < w.heap.size) (hg : g < w.heap.size) (hBg : B ≠ g) (hbg : b ≠ g)
  (hc : w.cell? ⟨B, 0, none⟩ = some (.slice (some ⟨b, off, none⟩) l.length cap)) (hC : Cells 4 seatC w b off l) (hR : RowF w g (n + 1) (fun j => .int .i64 (j : Int))) (base : Nat) (hbase : base ≤ g) :
  Calls Tryz.prog 95 #[.slice (some ⟨g, 0, none⟩) (n + 1 : Nat) (n + 1), .func (.func 96) #[] #[.pointer (some ⟨B, 0, none⟩)]] w fun e w' =>
   e = .returned (.tuple #[]) ∧ ∃ ord, IsOrder l ord ∧ RowF w' g (n + 1) (fun j => .int .i64 ((ord[j]! : Nat) : Int)) ∧ Below base w w' := by
 have eg : ∀ args w, (callFunc 96 args).run Tryz.prog w = .ok (.enter 96 args) w := fun _ _ => rfl
 have hcmp : CmpLays1 Tryz.prog 96 #[.pointer (some ⟨B, 0, none⟩)] (encF (n + 1)) (fun i j => cmpS (l[i.val]'(by omega)) (l[j.val]'(by omega))) g 0 (Array.finRange (n + 1)).size w := by
  intro m os dk hs x y
  have hcell : (sortWorld (encF (n + 1)) w g 0 m dk os).cell? ⟨B, 0, none⟩ = some (.slice (some ⟨b, off, none⟩) l.length cap) := by
   rw [World.cell?_of_block (w := w) (a := ⟨B, 0, none⟩) (sortWorld_block _ _ _ _ _ _ _ B hB hBg)]; exact hc
  have hcells : Cells 4 seatC (sortWorld (encF (n + 1)) w g 0 m dk os) b off l := by
   refine ⟨Nat.lt_of_lt_of_le hC.1 (sortWorld_size _ _ _ _ _ _ _), fun i hi j u hu => ?_⟩
   rw [World.cell?_of_block (w := w) (a := ⟨b, off + i * 4 + j, none⟩) (sortWorld_block _ _ _ _ _ _ _ b hC.1 hbg)]
   exact hC.2 i hi j u hu
  exact closure_any B l b off cap x.val y.val (by omega) (by omega) hl _ (Nat.lt_of_lt_of_le hB (sortWorld_size _ _ _ _ _ _ _)) hcell hcells
 have hH : Holds (encF (n + 1)) w g 0 (Array.finRange (n + 1)) := by
  intro j hj
  have hj' : j < n + 1 := by simpa using hj
  have h := hR.2 j hj'
  rw [Nat.zero_add]
  refine ⟨?_, h.2⟩
  rw [h.1, getElem!_pos _ j (by simpa using hj')]
  simp [encF]
 have h := Tryz.slices_SortFunc (encF (n + 1)) (fun _ => rfl) _ (swoS (fun i => l[i.val]'(by omega))) 96 #[.pointer (some ⟨B, 0, none⟩)] g 0 (n + 1) (Array.finRange (n + 1)) w eg hcmp hH hg (by simp; omega)
 have hsz : (Array.finRange (n + 1)).size = n + 1 := by simp
 rw [hsz] at h
 refine h.mono ?_
 rintro e w' ⟨rfl, d', q, os, ⟨hd1, hd2, hd3⟩, hS, rfl⟩
 have hd : d'.size = n + 1 := by rw [hd1]; simp
 refine ⟨rfl, d'.toList.map Fin.val, ⟨?_, ?_⟩, ?_, sortWorld_below _ _ _ _ _ _ _ base hbase (by omega)⟩
 ·have e1 := extract_all d' (n + 1) hd
  have e2 := extract_all (Array.finRange (n + 1)) (n + 1) hsz
  rw [e1, e2] at hd3
  have := hd3.map Fin.val
  rw [hn]
  refine this.trans (List.Perm.of_eq ?_)
  apply List.ext_getElem
  ·simp
  ·intro i h1 h2; simp
 ·rw [List.pairwise_iff_getElem]
  intro i j hi hj hij
  have hi' : i < d'.size := by simpa using hi
  have hj' : j < d'.size := by simpa using hj
  have := hS i j (Nat.zero_le _) hij (by omega)
  rw [getElem!_pos d' i hi', getElem!_pos d' j hj'] at this
  simp only [List.getElem_map, Array.getElem_toList]
  rw [getElem!_pos l _ (by omega), getElem!_pos l _ (by omega), ltS_cmp]
  exact this
 ·have hh : Holds (encF (n + 1)) (sortWorld (encF (n + 1)) w g 0 q d' os) g 0 d' := SW.holds ⟨q, os, rfl⟩ hg hH (by rw [hd]; simp)
  refine ⟨Nat.lt_of_lt_of_le hg (sortWorld_size _ _ _ _ _ _ _), fun j hj => ?_⟩
  have := hh j (by omega)
  rw [Nat.zero_add, getElem!_pos d' j (by omega)] at this
  refine ⟨?_, this.2⟩
  show _ = some (Value.int .i64 (((d'.toList.map Fin.val)[j]! : Nat) : Int))
  rw [this.1, getElem!_pos (d'.toList.map Fin.val) j (by simp; omega)]
  simp [encF]

set_option maxHeartbeats 2000000 in
theorem sorted_some (l : List Seat) (n : Nat) (hn : l.length = n + 1) (hl : l.length ≤ 4096) (b off cap : Nat) (w : World) (hC : Cells 4 seatC w b off l) :
  Calls Tryz.prog 75 #[.slice (some ⟨b, off, none⟩) l.length cap] w fun e w' => ∃ g ord, e = .returned (.slice (some ⟨g, 0, none⟩) l.length l.length) ∧ w.heap.size ≤ g ∧ IsOrder l ord ∧ RowF w' g l.length (fun j => .int .i64 ((ord[j]! : Nat) : Int)) ∧ Below w.heap.size w w' := by
 have HC : Hid (Cells 4 seatC w b off l) := hC
 have HN : Hid (l.length = n + 1) := hn
 clear hC hn
 have hmk := make23 l.length hl
 go_enter Tryz.func75, Tryz.ntmps75
 go_wp2
 go_loopw [4, 10] (fun _ i wr => ∃ k : Nat, k ≤ l.length ∧ i = .int .i64 k ∧ Below w.heap.size w wr ∧ w.heap.size + 1 < wr.heap.size ∧ wr.cell? ⟨w.heap.size, 0, none⟩ = some (.slice (some ⟨b, off, none⟩) l.length cap) ∧ RowF wr (w.heap.size + 1) l.length (fun j => .int .i64 (if j < k then (j : Int) else 0))) (fun _ i _ => l.length - (intOf i).toNat)
 case atStart =>
  refine ⟨0, Nat.zero_le _, rfl, ((Below.refl _ w).alloc (Nat.le_refl _) _).alloc (by simp) _, by simp, by simp, ?_⟩
  have h := RowF.made (w.alloc (.cells #[.slice (some ⟨b, off, none⟩) l.length cap] 30)) (.int .i64 0) l.length 3
  simpa using h
 case round =>
  obtain ⟨k, hk, rfl, hB, hsz, hbx, hR⟩ := hrel
  by_cases hlt : k < l.length
  ·have hltz : (k : Int) < (l.length : Int) := by omega
   have r0 := (hR.2 k hlt).1
   have r1 := (hR.2 k hlt).2
   simp only [if_neg (Nat.lt_irrefl k)] at r0
   go_wp2
   go_roundw
   case rel =>
    refine ⟨k + 1, by omega, by go_num, Below.setCell hB (by simp) _, by simpa using hsz, ?_, ?_⟩
    ·rw [World.cell?_setCell_other _ _ _ _ (by intro h; have := congrArg Addr.block h; simp at this)]; exact hbx
    ·refine hR.put k _ hlt fun j hj => ?_
     by_cases e : j = k
     ·subst e; rw [if_pos rfl, if_pos (by omega)]
     ·rw [if_neg e]
      by_cases h' : j < k
      ·rw [if_pos h', if_pos (by omega)]
      ·rw [if_neg h', if_neg (by omega)]
   case measure => simp [intOf]; omega
  ·have hltz : ¬ (k : Int) < (l.length : Int) := by omega
   have hk' : k = l.length := by omega
   have hR' : RowF wr (w.heap.size + 1) (n + 1) (fun j => .int .i64 (j : Int)) := by
    rw [← HN.out]
    refine ⟨hR.1, fun j hj => ?_⟩
    have := hR.2 j hj
    simp only [if_pos (show j < k by omega)] at this
    exact this
   have hCr := HC.out.next hB
   have hso := sortFunc_any l n HN.out hl b off cap w.heap.size (w.heap.size + 1) wr (by omega) hsz (by omega) (by have := HC.out.1; omega) hbx hCr hR' (w.heap.size) (by omega)
   rw [← HN.out] at hso
   clear hR hR' hCr hk'
   go_wp2_with fail
   refine hso.mono ?_
   rintro e w2 ⟨rfl, ord, ho, hR2, hb⟩
   go_wp2
   go_ret
   exact ⟨_, ord, rfl, by omega, ho, hR2, hB.trans hb⟩
set_option maxHeartbeats 1000000 in
theorem sorted_zero (a : Option Addr) (cap : Nat) (w : World) :
  Calls Tryz.prog 75 #[.slice a 0 cap] w fun e w' => ∃ g, e = .returned (.slice (some ⟨g, 0, none⟩) 0 0) ∧ w.heap.size ≤ g ∧ g < w'.heap.size ∧ Below w.heap.size w w' := by
 have hmk : ∀ w, (Instr.makeSlice 22 (.int .i64 0) (.int .i64 0)).run Tryz.prog w = .ok (.slice (some ⟨w.heap.size, 0, none⟩) 0 0) (w.alloc (.cells (madeCells #[.int .i64 0] 0) 3)) := make23 0 (by omega)
 go_enter Tryz.func75, Tryz.ntmps75
 go_wp2
 go_loop [4, 10] (fun _ i => i = .int .i64 0) (fun _ _ => 0)
 case atStart => rfl
 case round =>
  subst hrel
  go_wp2_with fail
  refine (Tryz.slices_SortFunc_none (α := Nat) _ _ _ _).mono ?_
  rintro e w' ⟨rfl, rfl⟩
  go_wp2
  go_ret
  exact ⟨_, rfl, by simp, by simp, ((Below.refl _ w).alloc (Nat.le_refl _) _).alloc (by simp) _⟩
/-- The numbers of the seats, in an order of theirs. -/
theorem sorted_any (l : List Seat) (a : Option Addr) (n cap : Nat) (hl : l.length ≤ 4096) (w : World) (hS : Sl 4 seatC w (.slice a n cap) l) :
  Calls Tryz.prog 75 #[.slice a n cap] w fun e w' => ∃ g ord, e = .returned (.slice (some ⟨g, 0, none⟩) l.length l.length) ∧ w.heap.size ≤ g ∧ IsOrder l ord ∧ RowF w' g l.length (fun j => .int .i64 ((ord[j]! : Nat) : Int)) ∧ Below w.heap.size w w' := by
 rcases hS with ⟨⟨a', c', he⟩, rfl⟩ | ⟨b, off, c, he, h1, h2, hC⟩
 ·cases he
  refine (sorted_zero _ _ w).mono ?_
  rintro e w' ⟨g, rfl, hg, hg2, hb⟩
  exact ⟨g, [], rfl, hg, ⟨List.Perm.refl _, List.Pairwise.nil⟩, ⟨hg2, fun j hj => absurd hj (Nat.not_lt_zero _)⟩, hb⟩
 ·cases he
  cases hl' : l.length with
  | zero =>
   have : l = [] := List.length_eq_zero_iff.1 hl'
   subst this
   refine (sorted_zero _ _ w).mono ?_
   rintro e w' ⟨g, rfl, hg, hg2, hb⟩
   exact ⟨g, [], rfl, hg, ⟨List.Perm.refl _, List.Pairwise.nil⟩, ⟨hg2, fun j hj => absurd hj (Nat.not_lt_zero _)⟩, hb⟩
  | succ m =>
   rw [← hl']
   exact sorted_some l m hl' hl b off cap w hC
end Go.Proofs.YtgpkdjhllekihaaGreatDoor.Ven
