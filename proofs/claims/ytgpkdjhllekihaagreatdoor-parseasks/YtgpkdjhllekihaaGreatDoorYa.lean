/- A venue of nothing, as its block holds it; a box of five cells set anew beside a row; What venue.Norm holds while it walks the order of the seats; Appends onto a row of its own, as steps of a region that draws; venue.Norm by its contract; The statement of parterreref2.Norm that appends three times, by an invariant; The statement 's := v.Seats[v.Kills[i]]' of parterreref2.Norm: it draws its order: by an invariant; The statement of parterreref2.put that appends three times, at a nil row: it draws its order: a fact for each state of what is done; The statement of parterreref2.put that appends three times, at a row that is there: it draws its order: a fact for each state of what is done; parterreref2.put by its contract: a number into a rising row, once; Rising rows; what a venue's parts are, by parts; Orders of seats: one alone where no two seats stand at one place of one row; Seats that stand at one place of one row; orders of seats where none do. -/
import Derived.Test.YtgpkdjhllekihaaGreatDoorVBox
import Derived.Test.YtgpkdjhllekihaaGreatDoorVRegA
import Derived.Test.YtgpkdjhllekihaaGreatDoorVRegB
import Derived.Test.YtgpkdjhllekihaaGreatDoorVSorted
import Derived.Maps.AppendAt
import Derived.Test.YtgpkdjhllekihaaGreatDoorVInv
import Derived.Test.YtgpkdjhllekihaaGreatDoorVSl
namespace Go.Proofs.YtgpkdjhllekihaaGreatDoor.Ven
set_option linter.unusedVariables false
open Go.RowKit Go.Shelf

abbrev Zero5 : Array Value := #[.slice none 0 0, .int .i64 0, .int .i64 0, .slice none 0 0, .slice none 0 0]
theorem row_set5 {w : World} {g : Nat} {cs : Array Value} (hB : Box w g 33 cs) {base : Nat} {e : TypeId} (hne : 33 ≠ e) {size : Nat} {v : Value} {n : Nat} {xs : List Value} (h : w.ownsRow base e size v n xs) (v0 v1 v2 v3 v4 : Value) :
  (((((w.setCell ⟨g, 0, none⟩ v0).setCell ⟨g, 1, none⟩ v1).setCell ⟨g, 2, none⟩ v2).setCell ⟨g, 3, none⟩ v3).setCell ⟨g, 4, none⟩ v4).ownsRow base e size v n xs :=
 row_setCell (row_setCell (row_setCell (row_setCell (row_setCell h hB hne 0 _) (hB.set 0 v0) hne 1 _) ((hB.set 0 v0).set 1 v1) hne 2 _) (((hB.set 0 v0).set 1 v1).set 2 v2) hne 3 _) ((((hB.set 0 v0).set 1 v1).set 2 v2).set 3 v3) hne 4 _
end Go.Proofs.YtgpkdjhllekihaaGreatDoor.Ven

namespace Go.Proofs.YtgpkdjhllekihaaGreatDoor.Ven
set_option linter.unusedVariables false
open Go.RowKit Go.Shelf

def pick (l : List Seat) (ord : List Nat) : List Seat := ord.map (fun i => l[i]!)
/-- Where, of the first 'k' of the order, the killed ones are. -/
def posOf (kills : List Int) (ord : List Nat) (k : Nat) : List Int := ((List.range k).filter (fun j => markB kills ord[j]!)).map (fun j : Nat => (j : Int))
def normU (V : Ven) (ord : List Nat) : Ven := ⟨pick V.seats ord, V.gap, V.radius, posOf V.kills ord V.seats.length, V.poles⟩
theorem posOf_hit (kills : List Int) (ord : List Nat) (k : Nat) (h : markB kills ord[k]! = true) : posOf kills ord (k + 1) = posOf kills ord k ++ [(k : Int)] := by
 unfold posOf; rw [List.range_succ, List.filter_append, List.map_append]; simp only [List.filter_cons, h, if_true, List.filter_nil, List.map_cons, List.map_nil]
theorem posOf_miss (kills : List Int) (ord : List Nat) (k : Nat) (h : markB kills ord[k]! = false) : posOf kills ord (k + 1) = posOf kills ord k := by
 unfold posOf; rw [List.range_succ, List.filter_append, List.map_append]; simp only [List.filter_cons, h, if_false, List.filter_nil, List.map_nil, List.append_nil, Bool.false_eq_true]
theorem posOf_len (kills : List Int) (ord : List Nat) (k : Nat) : (posOf kills ord k).length ≤ k := by
 unfold posOf; rw [List.length_map]; exact Nat.le_trans (List.length_filter_le _ _) (by simp)
theorem IsOrder.length {l : List Seat} {ord : List Nat} (h : IsOrder l ord) : ord.length = l.length := by rw [h.perm.length_eq]; simp
theorem IsOrder.lt {l : List Seat} {ord : List Nat} (h : IsOrder l ord) (k : Nat) (hk : k < l.length) : ord[k]! < l.length := by
 have hk' : k < ord.length := by rw [h.length]; exact hk
 rw [getElem!_pos ord k hk']
 have := h.perm.mem_iff.1 (List.getElem_mem hk')
 simpa using this
theorem pick_take (l : List Seat) (ord : List Nat) (k : Nat) (hk : k < ord.length) : (pick l ord).take (k + 1) = (pick l ord).take k ++ [l[ord[k]!]!] := by
 have hk' : k < (pick l ord).length := by unfold pick; simpa using hk
 rw [List.take_succ_eq_append_getElem hk']
 have e : (pick l ord)[k] = l[ord[k]!]! := by
  rw [getElem!_pos ord k hk]; simp only [pick, List.getElem_map]
 rw [e]

structure NSt (w : World) (V : Ven) (ord : List Nat) (B1 B2 g og kg base : Nat) (vc : Array Value) (az : Option Addr) (cs : Nat) (ak : Option Addr) (m ck : Nat) (ap : Option Addr) (np cp ks kk : Nat) (wr : World) : Prop where
 below : Below w.heap.size w wr
 hbase : base ≤ wr.heap.size
 b1 : Box wr B1 33 vc
 b2 : Box wr B2 33 Zero5
 u : Box wr g 33 #[.slice az ks cs, .int .i64 V.gap, .int .i64 V.radius, .slice ak m ck, .slice ap np cp]
 ge : w.heap.size ≤ g
 gb1 : g ≠ B1
 gb2 : g ≠ B2
 gog : g ≠ og
 gkg : g ≠ kg
 so : wr.ownsRow base 45 4 (.slice az ks cs) ks (((pick V.seats ord).take ks).flatMap seatC)
 ko : wr.ownsRow base 3 1 (.slice ak m ck) m ((posOf V.kills ord kk).flatMap intC)
 ml : m = (posOf V.kills ord kk).length
 po : wr.ownsRow 0 74 3 (.slice ap np cp) V.poles.length (V.poles.flatMap poleC)
 orr : RowF wr og V.seats.length (fun j => .int .i64 ((ord[j]! : Nat) : Int))
 kr : RowF wr kg V.seats.length (fun j => .bool (markB V.kills j))
 ogl : og < base
 kgl : kg < base
theorem RowF.same {w w' : World} {g n : Nat} {f : Nat → Value} (h : RowF w g n f) (hs : w.heap.size ≤ w'.heap.size) (hh : w'.heap[g]? = w.heap[g]?) : RowF w' g n f :=
 ⟨Nat.lt_of_lt_of_le h.1 hs, fun j hj => ⟨by rw [World.cell?_of_block (w := w) (a := ⟨g, j, none⟩) hh]; exact (h.2 j hj).1, by rw [World.frozen?_of_block (w := w) (a := ⟨g, j, none⟩) hh]; exact (h.2 j hj).2⟩⟩
variable {w : World} {V : Ven} {ord : List Nat} {B1 B2 g og kg base : Nat} {vc : Array Value} {az : Option Addr} {cs : Nat} {ak : Option Addr} {m ck : Nat} {ap : Option Addr} {np cp ks kk : Nat} {wr : World}
theorem NSt.next (h : NSt w V ord B1 B2 g og kg base vc az cs ak m ck ap np cp ks kk wr) {w' : World} (hb : Below wr.heap.size wr w') : NSt w V ord B1 B2 g og kg base vc az cs ak m ck ap np cp ks kk w' :=
 {below := h.below.trans (hb.mono h.below.size), hbase := Nat.le_trans h.hbase hb.size, b1 := h.b1.next hb, b2 := h.b2.next hb, u := h.u.next hb, ge := h.ge, gb1 := h.gb1, gb2 := h.gb2, gog := h.gog, gkg := h.gkg,
  so := row_next h.so hb, ko := row_next h.ko hb, ml := h.ml, po := row_next h.po hb, orr := h.orr.next hb, kr := h.kr.next hb, ogl := h.ogl, kgl := h.kgl }
/-- A seat more. -/
theorem NSt.seat (h : NSt w V ord B1 B2 g og kg base vc az cs ak m ck ap np cp ks kk wr) (hks : ks < ord.length) {w2 : World} {az2 : Option Addr} {cs2 : Nat} (s : Seat) (hs : V.seats[ord[ks]!]! = s)
  (hown : w2.ownsRow base 45 4 (.slice az2 (ks + 1) cs2) (ks + 1) (((pick V.seats ord).take ks).flatMap seatC ++ seatC s)) (hgr : wr.grownBy w2 (Value.slice az ks cs).ownBlock) (hw : w.heap.size ≤ base) :
  NSt w V ord B1 B2 g og kg base vc az2 cs2 ak m ck ap np cp (ks + 1) kk (w2.setCell ⟨g, 0, none⟩ (.slice az2 (ks + 1) cs2)) := by
 have hu2 := h.u.grown hgr (h.u.not_row (by decide) h.so)
 have hb2 : Below w.heap.size w w2 := by
  refine h.below.grown hgr h.below.size ?_
  intro k hk
  rcases Nat.lt_or_ge k w.heap.size with hlt | hge
  ·exact absurd hk.symm (row_low h.so (Nat.lt_of_lt_of_le hlt hw))
  ·exact hge
 have hsz : wr.heap.size ≤ w2.heap.size := hgr.size
 exact {
  below := Below.setCell hb2 h.ge _
  hbase := by simpa using Nat.le_trans h.hbase hsz
  b1 := (h.b1.grown hgr (h.b1.not_row (by decide) h.so)).other g 0 h.gb1.symm _
  b2 := (h.b2.grown hgr (h.b2.not_row (by decide) h.so)).other g 0 h.gb2.symm _
  u := hu2.set 0 _
  ge := h.ge, gb1 := h.gb1, gb2 := h.gb2, gog := h.gog, gkg := h.gkg
  so := by
   rw [pick_take V.seats ord ks hks, hs, List.flatMap_append]
   have := row_setCell hown hu2 (by decide) 0 (.slice az2 (ks + 1) cs2)
   simpa using this
  ko := row_setCell (row_grown h.ko h.so (by decide) hgr) hu2 (by decide) 0 _
  ml := h.ml
  po := row_setCell (row_grown h.po h.so (by decide) hgr) hu2 (by decide) 0 _
  orr := (h.orr.same hsz (hgr.block og h.orr.1 (row_low h.so h.ogl))).same (by simp) (Below.heap_setCell w2 _ _ og h.gog.symm)
  kr := (h.kr.same hsz (hgr.block kg h.kr.1 (row_low h.so h.kgl))).same (by simp) (Below.heap_setCell w2 _ _ kg h.gkg.symm)
  ogl := h.ogl, kgl := h.kgl }
/-- A kill more. -/
theorem NSt.kill (h : NSt w V ord B1 B2 g og kg base vc az cs ak m ck ap np cp ks kk wr) {w2 : World} {ak2 : Option Addr} {ck2 : Nat} (hhit : markB V.kills ord[kk]! = true)
  (hown : w2.ownsRow base 3 1 (.slice ak2 (m + 1) ck2) (m + 1) ((posOf V.kills ord kk).flatMap intC ++ [.int .i64 (kk : Int)])) (hgr : wr.grownBy w2 (Value.slice ak m ck).ownBlock) (hw : w.heap.size ≤ base) :
  NSt w V ord B1 B2 g og kg base vc az cs ak2 (m + 1) ck2 ap np cp ks (kk + 1) (w2.setCell ⟨g, 3, none⟩ (.slice ak2 (m + 1) ck2)) := by
 have hu2 := h.u.grown hgr (h.u.not_row (by decide) h.ko)
 have hb2 : Below w.heap.size w w2 := by
  refine h.below.grown hgr h.below.size ?_
  intro k hk
  rcases Nat.lt_or_ge k w.heap.size with hlt | hge
  ·exact absurd hk.symm (row_low h.ko (Nat.lt_of_lt_of_le hlt hw))
  ·exact hge
 have hsz : wr.heap.size ≤ w2.heap.size := hgr.size
 exact {
  below := Below.setCell hb2 h.ge _
  hbase := by simpa using Nat.le_trans h.hbase hsz
  b1 := (h.b1.grown hgr (h.b1.not_row (by decide) h.ko)).other g 3 h.gb1.symm _
  b2 := (h.b2.grown hgr (h.b2.not_row (by decide) h.ko)).other g 3 h.gb2.symm _
  u := hu2.set 3 _
  ge := h.ge, gb1 := h.gb1, gb2 := h.gb2, gog := h.gog, gkg := h.gkg
  so := row_setCell (row_grown h.so h.ko (by decide) hgr) hu2 (by decide) 3 _
  ko := by
   rw [posOf_hit V.kills ord kk hhit, List.flatMap_append]
   have := row_setCell hown hu2 (by decide) 3 (.slice ak2 (m + 1) ck2)
   simpa [intC] using this
  ml := by rw [posOf_hit V.kills ord kk hhit, List.length_append, ← h.ml]; rfl
  po := row_setCell (row_grown h.po h.ko (by decide) hgr) hu2 (by decide) 3 _
  orr := (h.orr.same hsz (hgr.block og h.orr.1 (row_low h.ko h.ogl))).same (by simp) (Below.heap_setCell w2 _ _ og h.gog.symm)
  kr := (h.kr.same hsz (hgr.block kg h.kr.1 (row_low h.ko h.kgl))).same (by simp) (Below.heap_setCell w2 _ _ kg h.gkg.symm)
  ogl := h.ogl, kgl := h.kgl }
/-- No kill. -/
theorem NSt.miss (h : NSt w V ord B1 B2 g og kg base vc az cs ak m ck ap np cp ks kk wr) (hm : markB V.kills ord[kk]! = false) : NSt w V ord B1 B2 g og kg base vc az cs ak m ck ap np cp ks (kk + 1) wr :=
 {h with ko := by rw [posOf_miss V.kills ord kk hm]; exact h.ko, ml := by rw [posOf_miss V.kills ord kk hm]; exact h.ml }
/-- At the end the box holds the venue in that order. -/
theorem NSt.ven (h : NSt w V ord B1 B2 g og kg base vc az cs ak m ck ap np cp ks kk wr) (hks : ks = V.seats.length) (hkk : kk = V.seats.length) (ho : IsOrder V.seats ord) : VenAt wr az ks cs ak m ck ap np cp (normU V ord) := by
 have hl : (pick V.seats ord).length = V.seats.length := by unfold pick; rw [List.length_map, ho.length]
 refine ⟨?_, ?_, ?_⟩
 ·have := h.so
  rw [List.take_of_length_le (by omega)] at this
  exact row_sl seatC_len (l := pick V.seats ord) (by rw [hl, ← hks]; exact this)
 ·have := h.ko
  rw [hkk] at this
  have hml := h.ml
  rw [hkk] at hml
  exact row_sl intC_len (l := posOf V.kills ord V.seats.length) (by rw [← hml]; exact this)
 ·exact row_sl poleC_len h.po
end Go.Proofs.YtgpkdjhllekihaaGreatDoor.Ven

namespace Go.Proofs.YtgpkdjhllekihaaGreatDoor.Ven
set_option linter.unusedVariables false
set_option maxRecDepth 100000
open Go.RowKit Go.Shelf

/-- append onto a row of its own, as one step of a region that draws; where the new row lies. -/
theorem step_append_own_at {P : Program} {ops : Array Oper} {o : Oper} {a : Act} {w : World} {K : Act → World → Prop} {Q : Exit → Act → World → Prop} {E : Prop}
  (hg : o.guard = none) (s x : Operand) (t : TypeId) (ho : o.op = .call { callee := .builtin .append, args := #[s, x], argTypes := #[t, t] })
  (base : Nat) (e : TypeId) (i : TypeInfo) (z : Value) (size bytes : Nat) (ht : P.underlying t = some (.slice e)) (hi : P.info? e = some i) (hz : i.zero = some z)
  (hsize : i.size = size) (hby : i.bytes = bytes) (hzs : z.cells.size = size) (hsz : 0 < size)
  (v : Value) (n : Nat) (xs : List Value) (hs : a.eval s = v) (hown : w.ownsRow base e size v n xs)
  (ad : Addr) (m c : Nat) (news : List Value) (hx : a.eval x = .slice (some ad) m c) (hl : news.length = m * size) (hnews : ∀ j u, news[j]? = some u → w.cell? (ad.add j) = some u) (h1 : ∀ u ∈ news, u.oneCell' = true)
  (h63 : n + m ≤ maxLen) (hbytes : (n + m) * bytes ≤ 140737488355328) (hbase : base ≤ w.heap.size)
  (h : ∀ v' w', w'.ownsRow base e size v' (n + m) (xs ++ news) → w.grownBy w' v.ownBlock → (v'.ownBlock = v.ownBlock ∨ v'.ownBlock = some w.heap.size) → K (a.put o.dst v') w') :
  if Region.wanted o (yielded ops a.tmps) = true then Oper.wp P o a w K Q else E := by
 have hw : Region.wanted o (yielded ops a.tmps) = true := by simp [Region.wanted, hg]
 rw [if_pos hw]
 obtain ⟨v', w', hr, h2, h3, _, h5⟩ := run_append_own_at (P := P) w base t o.type e i z size bytes ht hi hz hsize hby hzs hsz v n xs hown ad m c news hl hnews h1 h63 hbytes hbase
 unfold Oper.wp execOp
 simp only [ho, resolve, invoke, builtin, Sem.run_bind, Sem.run_pure, Result.andThen_ok, List.map_toArray, List.map_cons, List.map_nil, hs, hx, hr]
 exact h v' w' h2 h3 h5
theorem append_no23 (ty : TypeId) (base : Option Addr) (n c : Nat) (h : n ≤ c) (w : World) : (Builtin.append_ #[22, 22] ty #[.slice base n c, .slice none 0 0]).run Tryz.prog w = .ok (.slice base n c) w := by
 have hs := Tryz.sizeOf3
 cases base <;> simp [Builtin.append_, go_sem, hs, h, Builtin.lenOf, Builtin.firstCells]
theorem append_no22 (ty : TypeId) (base : Option Addr) (n c : Nat) (h : n ≤ c) (w : World) : (Builtin.append_ #[30, 30] ty #[.slice base n c, .slice none 0 0]).run Tryz.prog w = .ok (.slice base n c) w := by
 have hs := Tryz.sizeOf45
 cases base <;> simp [Builtin.append_, go_sem, hs, h, Builtin.lenOf, Builtin.firstCells]
/-- append of nothing, as one step of a region that draws. -/
theorem step_append_no {ops : Array Oper} {o : Oper} {a : Act} {w : World} {K : Act → World → Prop} {Q : Exit → Act → World → Prop} {E : Prop}
  (hg : o.guard = none) (t : TypeId) (ht : t = 30 ∨ t = 22) (hty : o.type = t) (s x : Operand) (ho : o.op = .call { callee := .builtin .append, args := #[s, x], argTypes := #[t, t] })
  (base : Option Addr) (n c : Nat) (hs : a.eval s = .slice base n c) (hn : n ≤ c) (hx : a.eval x = .slice none 0 0)
  (h : K (a.put o.dst (.slice base n c)) w) :
  if Region.wanted o (yielded ops a.tmps) = true then Oper.wp Tryz.prog o a w K Q else E := by
 have hw : Region.wanted o (yielded ops a.tmps) = true := by simp [Region.wanted, hg]
 rw [if_pos hw]
 have hr : (Builtin.append_ #[t, t] o.type #[.slice base n c, .slice none 0 0]).run Tryz.prog w = .ok (.slice base n c) w := by
  rcases ht with rfl | rfl
  ·exact append_no22 _ base n c hn w
  ·exact append_no23 _ base n c hn w
 unfold Oper.wp execOp
 simp only [ho, resolve, invoke, builtin, Sem.run_bind, Sem.run_pure, Result.andThen_ok, List.map_toArray, List.map_cons, List.map_nil, hs, hx, hr]
 exact h
theorem below_al (w : World) (o : Obj) : Below w.heap.size w (w.alloc o) := (Below.refl _ w).alloc (Nat.le_refl _) o
theorem row_cap {w : World} {base : Nat} {e : TypeId} {size : Nat} {a : Option Addr} {n c : Nat} {xs : List Value} (h : w.ownsRow base e size (.slice a n c) n xs) : n ≤ c := by
 rcases h.2 with ⟨hv, hn⟩ | ⟨g', cap, cur, hv, _, hb, hn, _⟩
 ·injection hv with _ h1 h2; omega
 ·injection hv with _ h1 h2; omega
theorem row_high {w : World} {base : Nat} {e : TypeId} {size : Nat} {v : Value} {n : Nat} {xs : List Value} (h : w.ownsRow base e size v n xs) : ∀ k, v.ownBlock = some k → base ≤ k := by
 intro k hk
 rcases Nat.lt_or_ge k base with h' | h'
 ·exact absurd hk.symm (row_low h h')
 ·exact h'
theorem row_ne_size {w : World} {base : Nat} {e : TypeId} {size : Nat} {v : Value} {n : Nat} {xs : List Value} (h : w.ownsRow base e size v n xs) : v.ownBlock ≠ some w.heap.size := by
 intro hc
 rcases h.2 with ⟨hv, _⟩ | ⟨g', cap, cur, hv, _, hb, _⟩
 ·subst hv; cases hc
 ·subst hv
  have := (Array.getElem?_eq_some_iff.1 hb).1
  simp [Value.ownBlock] at hc; omega
theorem loc_ne {v v' : Value} {s g : Nat} (h : v.ownBlock ≠ some g) (hg : g < s) (hl : v'.ownBlock = v.ownBlock ∨ v'.ownBlock = some s) : v'.ownBlock ≠ some g := by
 rcases hl with h' | h'
 ·rw [h']; exact h
 ·rw [h']; intro hc; injection hc with hc; omega
theorem seat_one (l : List Seat) (u : Value) (hu : u ∈ l.flatMap seatC) : u.oneCell' = true := by
 obtain ⟨t, _, hu⟩ := List.mem_flatMap.1 hu
 simp [seatC] at hu; rcases hu with rfl | rfl | rfl | rfl <;> rfl
theorem int_one (l : List Int) (u : Value) (hu : u ∈ l.flatMap intC) : u.oneCell' = true := by
 obtain ⟨t, _, hu⟩ := List.mem_flatMap.1 hu
 simp [intC] at hu; subst hu; rfl
theorem Cells.flat_takeG {α : Type} {k : Nat} {enc : α → List Value} {w : World} {b off : Nat} {l : List α} {j : Nat} (h : Cells k enc w b off l) (hk : ∀ x, (enc x).length = k) (h0 : 0 < k) (q : Nat) (u : Value) (hq : ((l.take j).flatMap enc)[q]? = some u) : w.cell? ⟨b, off + q, none⟩ = some u := by
 refine h.flat hk h0 q u ?_
 have e : l.flatMap enc = (l.take j).flatMap enc ++ (l.drop j).flatMap enc := by rw [← List.flatMap_append, List.take_append_drop]
 rw [e, List.getElem?_append_left (List.getElem?_eq_some_iff.1 hq).1]
 exact hq
theorem Cells.flat_dropG {α : Type} {k : Nat} {enc : α → List Value} {w : World} {b off : Nat} {l : List α} {j : Nat} (h : Cells k enc w b off l) (hk : ∀ x, (enc x).length = k) (h0 : 0 < k) (hj : j ≤ l.length) (q : Nat) (u : Value) (hq : ((l.drop j).flatMap enc)[q]? = some u) : w.cell? ⟨b, off + j * k + q, none⟩ = some u := by
 rw [Nat.add_assoc]
 refine h.flat hk h0 _ u ?_
 have e : l.flatMap enc = (l.take j).flatMap enc ++ (l.drop j).flatMap enc := by rw [← List.flatMap_append, List.take_append_drop]
 have hl : ((l.take j).flatMap enc).length = j * k := by rw [flat_len enc k hk, List.length_take, Nat.min_eq_left hj]
 rw [e, List.getElem?_append_right (by omega), hl, Nat.add_sub_cancel_left]
 exact hq
end Go.Proofs.YtgpkdjhllekihaaGreatDoor.Ven

namespace Go.Proofs.YtgpkdjhllekihaaGreatDoor.Ven
set_option linter.unusedVariables false
set_option maxRecDepth 100000
open Go.RowKit Go.Shelf

/-- A venue whose three rows are rows of their own, each of its type. -/
structure VenOwn (w : World) (a1 : Option Addr) (n1 c1 : Nat) (a2 : Option Addr) (n2 c2 : Nat) (a3 : Option Addr) (n3 c3 : Nat) (V : Ven) : Prop where
 s : w.ownsRow 0 45 4 (.slice a1 n1 c1) V.seats.length (V.seats.flatMap seatC)
 k : w.ownsRow 0 3 1 (.slice a2 n2 c2) V.kills.length (V.kills.flatMap intC)
 p : w.ownsRow 0 74 3 (.slice a3 n3 c3) V.poles.length (V.poles.flatMap poleC)
theorem VenOwn.at {w : World} {a1 : Option Addr} {n1 c1 : Nat} {a2 : Option Addr} {n2 c2 : Nat} {a3 : Option Addr} {n3 c3 : Nat} {V : Ven} (h : VenOwn w a1 n1 c1 a2 n2 c2 a3 n3 c3 V) : VenAt w a1 n1 c1 a2 n2 c2 a3 n3 c3 V :=
 ⟨row_sl seatC_len h.s, row_sl intC_len h.k, row_sl poleC_len h.p⟩
theorem VenOwn.next {w w' : World} {a1 : Option Addr} {n1 c1 : Nat} {a2 : Option Addr} {n2 c2 : Nat} {a3 : Option Addr} {n3 c3 : Nat} {V : Ven} (h : VenOwn w a1 n1 c1 a2 n2 c2 a3 n3 c3 V) (hb : Below w.heap.size w w') : VenOwn w' a1 n1 c1 a2 n2 c2 a3 n3 c3 V :=
 ⟨row_next h.s hb, row_next h.k hb, row_next h.p hb⟩
/-- A cell of a box of another type is set. -/
theorem VenOwn.set {w : World} {a1 : Option Addr} {n1 c1 : Nat} {a2 : Option Addr} {n2 c2 : Nat} {a3 : Option Addr} {n3 c3 : Nat} {V : Ven} (h : VenOwn w a1 n1 c1 a2 n2 c2 a3 n3 c3 V) {g : Nat} {e : TypeId} {cs : Array Value} (hB : Box w g e cs) (h1 : e ≠ 45) (h2 : e ≠ 3) (h3 : e ≠ 74) (i : Nat) (v : Value) : VenOwn (w.setCell ⟨g, i, none⟩ v) a1 n1 c1 a2 n2 c2 a3 n3 c3 V :=
 ⟨row_setCell h.s hB h1 i v, row_setCell h.k hB h2 i v, row_setCell h.p hB h3 i v⟩
theorem ven_rows {V : Ven} {ord : List Nat} {wr : World} {base ks kk cs m ck np cp : Nat} {az ak ap : Option Addr} (so : wr.ownsRow base 45 4 (.slice az ks cs) ks (((pick V.seats ord).take ks).flatMap seatC)) (ko : wr.ownsRow base 3 1 (.slice ak m ck) m ((posOf V.kills ord kk).flatMap intC)) (ml : m = (posOf V.kills ord kk).length) (po : wr.ownsRow 0 74 3 (.slice ap np cp) V.poles.length (V.poles.flatMap poleC))
  (hks : ks = V.seats.length) (hkk : kk = V.seats.length) (ho : IsOrder V.seats ord) : VenOwn wr az ks cs ak m ck ap np cp (normU V ord) := by
 have hl : (pick V.seats ord).length = V.seats.length := by unfold pick; rw [List.length_map, ho.length]
 refine ⟨?_, ?_, po⟩
 ·have := so
  rw [List.take_of_length_le (by omega)] at this
  have h2 : wr.ownsRow base 45 4 (.slice az ks cs) (pick V.seats ord).length ((pick V.seats ord).flatMap seatC) := by rw [hl, ← hks]; exact this
  exact Go.Joins.ownsRow_le h2 (Nat.zero_le _)
 ·have := ko
  rw [hkk] at this
  have hml := ml
  rw [hkk] at hml
  have h2 : wr.ownsRow base 3 1 (.slice ak m ck) (posOf V.kills ord V.seats.length).length ((posOf V.kills ord V.seats.length).flatMap intC) := by rw [← hml]; exact this
  exact Go.Joins.ownsRow_le h2 (Nat.zero_le _)
abbrev venZ : Value := venV none 0 0 0 0 none 0 0 none 0 0
set_option maxHeartbeats 1000000 in
theorem norm_many (a1 a2 a3 : Option Addr) (n1 c1 n2 c2 n3 c3 : Nat) (gap radius : Int) (h : 4096 < n1 ∨ 200 < n3) (w : World) :
  Calls Tryz.prog 49 #[venV a1 n1 c1 gap radius a2 n2 c2 a3 n3 c3] w fun e w' => e = .returned (.tuple #[venZ, .bool false]) ∧ Below w.heap.size w w' := by
 by_cases h1 : (4096 : Int) < (n1 : Int)
 ·clear h
  go_enter Tryz.func49, Tryz.ntmps49
  go_wp2_with fail
  refine bodyPost_ret (v := .tuple #[venZ, .bool false]) (by simp [results, Tryz.results49, go_sem]) rfl ⟨rfl, ?_⟩
  exact ((Below.refl _ w).alloc (Nat.le_refl _) _).alloc (by simp) _
 ·have h2 : (200 : Int) < (n3 : Int) := by omega
  clear h
  go_enter Tryz.func49, Tryz.ntmps49
  go_wp2_with fail
  refine bodyPost_ret (v := .tuple #[venZ, .bool false]) (by simp [results, Tryz.results49, go_sem]) rfl ⟨rfl, ?_⟩
  exact ((Below.refl _ w).alloc (Nat.le_refl _) _).alloc (by simp) _
set_option maxHeartbeats 1000000 in
theorem norm_bad (a1 a2 a3 : Option Addr) (n1 c1 n2 c2 n3 c3 : Nat) (V : Ven) (w : World) (h : VenAt w a1 n1 c1 a2 n2 c2 a3 n3 c3 V) (h1 : V.seats.length ≤ 4096) (h3 : V.poles.length ≤ 200) (hin : V.kills.all (fun k => isSeatB k V.seats.length) = false) :
  Calls Tryz.prog 49 #[venV a1 n1 c1 V.gap V.radius a2 n2 c2 a3 n3 c3] w fun e w' => e = .returned (.tuple #[venZ, .bool false]) ∧ Below w.heap.size w w' := by
 have e1 := h.s.len
 have e3 := h.p.len
 have hm := fun w' hb => marks_no V.kills _ V.seats.length h1 w' (h.next (w' := w') hb).k hin
 rw [← e1] at hm h1
 rw [← e3] at h3
 clear e1 e3 h hin
 have z1 : ¬ (4096 : Int) < (n1 : Int) := by omega
 have z3 : ¬ (200 : Int) < (n3 : Int) := by omega
 generalize V.gap = gap
 generalize V.radius = radius
 go_enter Tryz.func49, Tryz.ntmps49
 go_wp2_with fail
 refine (hm _ (((Below.refl _ w).alloc (Nat.le_refl _) _).alloc (by simp) _)).mono ?_
 rintro e w1 ⟨rfl, hb⟩
 have hB := Box.next (Box.fresh (w.alloc (.cells #[.slice a1 n1 c1, .int .i64 gap, .int .i64 radius, .slice a2 n2 c2, .slice a3 n3 c3] 33)) 33 Zero5) hb
 simp at hB
 have hB1 : Below w.heap.size w w1 := (((Below.refl _ w).alloc (Nat.le_refl _) _).alloc (by simp) _).trans (hb.mono (by simp; omega))
 have x0 := hB.cell 0 _ rfl
 have x1 := hB.cell 1 _ rfl
 have x2 := hB.cell 2 _ rfl
 have x3 := hB.cell 3 _ rfl
 have x4 := hB.cell 4 _ rfl
 have f0 := hB.frozen 0
 have f1 := hB.frozen 1
 have f2 := hB.frozen 2
 have f3 := hB.frozen 3
 have f4 := hB.frozen 4
 have hl := hB.lt
 clear hb
 go_wp2_with fail
 refine bodyPost_ret (v := .tuple #[venZ, .bool false]) (by simp [results, Tryz.results49, go_sem, x0, x1, x2, x3, x4]) rfl ⟨rfl, ?_⟩
 exact Below.setCell (Below.setCell (Below.setCell (Below.setCell (Below.setCell hB1 (by simp) _) (by simp) _) (by simp) _) (by simp) _) (by simp) _

set_option maxRecDepth 100000 in
set_option maxHeartbeats 4000000 in
theorem norm_main (a1 a2 a3 : Option Addr) (c1 n2 c2 n3 c3 : Nat) (V : Ven) (w : World) (h : VenAt w a1 V.seats.length c1 a2 n2 c2 a3 n3 c3 V) (h1 : V.seats.length ≤ 4096) (h3 : V.poles.length ≤ 200) (hin : V.kills.all (fun k => isSeatB k V.seats.length) = true) :
  Calls Tryz.prog 49 #[venV a1 V.seats.length c1 V.gap V.radius a2 n2 c2 a3 n3 c3] w fun e w' => ∃ ord, IsOrder V.seats ord ∧ Below w.heap.size w w' ∧
   ((mayB (normU V ord) = false ∧ e = .returned (.tuple #[venZ, .bool false])) ∨ (mayB (normU V ord) = true ∧ ∃ b1 m1 d1 b2 m2 d2 b3 m3 d3, e = .returned (.tuple #[venV b1 m1 d1 V.gap V.radius b2 m2 d2 b3 m3 d3, .bool true]) ∧ VenOwn w' b1 m1 d1 b2 m2 d2 b3 m3 d3 (normU V ord))) := by
 have e3 := h.p.len
 have hm := fun w' hb => marks_yes V.kills _ V.seats.length h1 w' (h.next (w' := w') hb).k hin
 have z1 : ¬ (4096 : Int) < (V.seats.length : Int) := by omega
 have z3 : ¬ (200 : Int) < (n3 : Int) := by omega
 have HV : Hid (VenAt w a1 V.seats.length c1 a2 n2 c2 a3 n3 c3 V) := h
 clear e3 h hin
 go_enter Tryz.func49, Tryz.ntmps49
 go_wp2_with fail
 refine (hm _ (((Below.refl _ w).alloc (Nat.le_refl _) _).alloc (by simp) _)).mono ?_
 rintro e w1 ⟨rfl, hkr, hb⟩
 have hB1 := Box.next (Box.next (Box.fresh w 33 #[.slice a1 V.seats.length c1, .int .i64 V.gap, .int .i64 V.radius, .slice a2 n2 c2, .slice a3 n3 c3]) ((Below.refl _ _).alloc (Nat.le_refl _) (.cells Zero5 33))) hb
 have hB2 := Box.next (Box.fresh (w.alloc (.cells #[.slice a1 V.seats.length c1, .int .i64 V.gap, .int .i64 V.radius, .slice a2 n2 c2, .slice a3 n3 c3] 33)) 33 Zero5) hb
 have hbw : Below w.heap.size w w1 := (((Below.refl _ w).alloc (Nat.le_refl _) _).alloc (by simp) _).trans (hb.mono (by simp; omega))
 simp at hB2 hkr
 clear hb hm
 go_wp2_with fail
 refine region11_6 _ a1 a2 a3 V.seats.length c1 n2 c2 n3 c3 V.gap V.radius V.poles h3 w.heap.size w1 rfl rfl hB1 (HV.out.next hbw).p ?_
 intro w2 g ap np cp hg hb2 hx hpo
 simp only [putAll, List.setIfInBounds_toArray, List.set_cons_succ, List.set_cons_zero]
 have v0 := (hB1.next hb2).cell 0 _ rfl
 have hbw2 : Below w.heap.size w w2 := hbw.trans (hb2.mono hbw.size)
 have hlw := (hB1.next hb2).lt
 go_wp2_with fail
 refine (sorted_any V.seats a1 V.seats.length c1 h1 w2 (HV.out.next hbw2).s).mono ?_
 rintro e w3 ⟨og, ord, rfl, hog, ho, hor, hb3⟩
 have hbw3 : Below w.heap.size w w3 := hbw2.trans (hb3.mono hbw2.size)
 have hzw1 : w1.heap.size ≤ w2.heap.size := hb2.size
 have hl2 := hB2.lt
 have hkl := hkr.1
 have st : NSt w V ord w.heap.size (w.heap.size + 1) g og (w.heap.size + 1 + 1) w3.heap.size #[.slice a1 V.seats.length c1, .int .i64 V.gap, .int .i64 V.radius, .slice a2 n2 c2, .slice a3 n3 c3] none 0 none 0 0 ap np cp 0 0 w3 :=
  {below := hbw3, hbase := Nat.le_refl _, b1 := (hB1.next hb2).next hb3, b2 := (hB2.next hb2).next hb3, u := hx.next hb3, ge := by omega, gb1 := by omega, gb2 := by omega, gog := by have := hx.lt; omega, gkg := by omega,
   so := World.ownsRow_nil _ _ _ _, ko := World.ownsRow_nil _ _ _ _, ml := rfl, po := Go.Joins.ownsRow_le (row_next hpo hb3) (Nat.zero_le _), orr := hor, kr := (hkr.next hb2).next hb3, ogl := hor.1, kgl := Nat.lt_of_lt_of_le hkl (Nat.le_trans hzw1 hb3.size) }
 have HO : Hid (IsOrder V.seats ord) := ho
 have hwb : w.heap.size ≤ w3.heap.size := hbw3.size
 clear hx hpo hb2 hb3 hor hkr hB1 hB2 v0 hlw hbw hbw2 hbw3 hog hg hzw1 hl2 hkl ho
 go_wp2_with fail
 go_loopw [7, 8, 44] (fun _ _ i wr => ∃ (k : Nat) (az : Option Addr) (cs : Nat) (ak : Option Addr) (m ck : Nat), k ≤ V.seats.length ∧ i = .int .i64 k ∧ NSt w V ord w.heap.size (w.heap.size + 1) g og (w.heap.size + 1 + 1) w3.heap.size #[.slice a1 V.seats.length c1, .int .i64 V.gap, .int .i64 V.radius, .slice a2 n2 c2, .slice a3 n3 c3] az cs ak m ck ap np cp k k wr) (fun _ _ i _ => V.seats.length - (intOf i).toNat)
 case atStart => exact ⟨0, none, 0, none, 0, 0, Nat.zero_le _, rfl, st⟩
 case round =>
  clear st
  obtain ⟨k, az, cs, ak, m, ck, hk, rfl, st⟩ := hrel
  by_cases hlt : k < V.seats.length
  ·have hltz : (k : Int) < (V.seats.length : Int) := by omega
   have hlt' : k < V.seats.length := hlt
   have q0 : wr.cell? ⟨og, k, none⟩ = some (.int .i64 ((ord[k]! : Nat) : Int)) := (st.orr.2 k hlt').1
   have hol := HO.out.lt k hlt'
   have hkl : k < ord.length := by rw [HO.out.length]; exact hlt'
   generalize hwas : ord[k]! = was at q0 hol
   have HW : Hid (ord[k]! = was) := hwas
   clear hwas
   have hC0 : ∃ b off, a1 = some ⟨b, off, none⟩ ∧ Cells 4 seatC w b off V.seats := by
    rcases HV.out.s with ⟨_, hn⟩ | ⟨b, off, cap, he, _, _, hC⟩
    ·rw [hn] at hlt'; simp at hlt'
    ·cases he; exact ⟨b, off, rfl, hC⟩
   obtain ⟨b, off, rfl, hC⟩ := hC0
   have hse := (hC.next st.below).seat was hol
   have hse2 : V.seats[was]! = V.seats[was] := getElem!_pos V.seats was hol
   generalize V.seats[was] = sx at hse hse2
   obtain ⟨r, x, y, kk⟩ := sx
   simp only at hse
   have HS : Hid (V.seats[ord[k]!]! = ⟨r, x, y, kk⟩) := by
    show V.seats[ord[k]!]! = ⟨r, x, y, kk⟩
    rw [HW.out]; exact hse2
   clear hse2 hC
   go_wp2_with fail
   have stn := st.next ((Below.refl _ wr).alloc (Nat.le_refl _) (.cells #[.int .i64 r, .int .i64 x, .int .i64 y, .int .i64 kk] 45)).drew
   refine region11_10 _ az k cs (((pick V.seats ord).take k).flatMap seatC) w3.heap.size _ _ _ _ V.seats c1 b off was hol (by omega) h1 r x y kk w.heap.size g wr rfl rfl rfl rfl st.hbase st.u st.b1.lt (st.b1.cell 0 _ rfl) hse st.so ?_
   intro w4 az2 cs2 hown4 hgr4
   simp only [putAll, List.setIfInBounds_toArray, List.set_cons_succ, List.set_cons_zero]
   have st4 := stn.seat hkl ⟨r, x, y, kk⟩ HS.out hown4 hgr4 hwb
   have hu4 := st4.u
   have m4 : (w4.setCell ⟨g, 0, none⟩ (.slice az2 (k + 1) cs2)).cell? ⟨w.heap.size + 1 + 1, was, none⟩ = some (.bool (markB V.kills was)) := (st4.kr.2 was hol).1
   generalize hw5 : w4.setCell ⟨g, 0, none⟩ (.slice az2 (k + 1) cs2) = w5 at st4 hu4 m4
   clear st stn hown4 hgr4 hse hw5 q0
   have hkb := st4.kr.1
   have holz : (was : Int) < (V.seats.length : Int) := by omega
   cases hmark : markB V.kills was with
   | false =>
    rw [hmark] at m4
    have HM : Hid (markB V.kills ord[k]! = false) := by
     show markB V.kills ord[k]! = false
     rw [HW.out]; exact hmark
    clear hmark
    go_wp2_with fail
    go_roundw
    case rel => exact ⟨k + 1, az2, cs2, ak, m, ck, by omega, by go_num, st4.miss HM.out⟩
    case measure => simp [intOf]; omega
   | true =>
    rw [hmark] at m4
    have HM : Hid (markB V.kills ord[k]! = true) := by
     show markB V.kills ord[k]! = true
     rw [HW.out]; exact hmark
    clear hmark
    have u3 := hu4.cell 3 _ rfl
    have ul := hu4.lt
    have hml := posOf_len V.kills ord k
    rw [← st4.ml] at hml
    obtain ⟨i0, hi, hz0, hz1, hz2⟩ := info3
    have stn4 := st4.next ((Below.refl _ w5).alloc (Nat.le_refl _) (.cells #[.int .i64 (k : Int)] 3))
    go_wp2_with (at_builtin; refine wpList_append_own _ rfl _ _ 22 rfl w3.heap.size 3 i0 (.int .i64 0) 1 8 Tryz.underlying22 hi hz0 hz1 hz2 rfl (by omega) _ _ _ rfl stn4.ko ⟨w5.heap.size, 0, none⟩ 1 1 [.int .i64 (k : Int)] rfl ?qc1 ?qc2 ?qc3 ?qc4 ?qc5 ?qc6 ?_)
    case qc1 => rfl
    case qc2 =>
     intro j u hj
     rw [Addr.add_lit, Nat.zero_add, World.cell?_alloc_at _ _ _ _ rfl]
     show [Value.int .i64 (k : Int)].toArray[j]? = some u
     rw [List.getElem?_toArray]; exact hj
    case qc3 => intro u hu; simp at hu; subst hu; rfl
    case qc4 => unfold maxLen; omega
    case qc5 => omega
    case qc6 => exact stn4.hbase
    intro v6 w6 hown6 hgr6 _
    obtain ⟨ak2, ck2, rfl⟩ := row_slice hown6
    have hu6 := stn4.u.grown hgr6 (stn4.u.not_row (by decide) stn4.ko)
    have y3 := hu6.cell 3 _ rfl
    have yf := hu6.frozen 3
    have yl := hu6.lt
    have st6 := stn4.kill HM.out hown6 hgr6 hwb
    clear stn4 st4 hown6 hgr6 hu6 hu4
    go_wp2_with fail
    go_roundw
    case rel => exact ⟨k + 1, az2, cs2, ak2, m + 1, ck2, by omega, by go_num, st6⟩
    case measure => simp [intOf]; omega
  ·have hltz : ¬ (k : Int) < (V.seats.length : Int) := by omega
   have hke : k = V.seats.length := by omega
   have hven := st.ven hke hke HO.out
   have u0 := st.u.cell 0 _ rfl
   have u1 := st.u.cell 1 _ rfl
   have u2 := st.u.cell 2 _ rfl
   have u3 := st.u.cell 3 _ rfl
   have u4 := st.u.cell 4 _ rfl
   have hmay := may_any az ak ap k cs m ck np cp (normU V ord) wr hven
   have hmay' : Calls Tryz.prog 76 #[venV az k cs V.gap V.radius ak m ck ap np cp] wr fun e w' => e = .returned (.bool (mayB (normU V ord))) ∧ Below wr.heap.size wr w' := hmay
   have HKE : Hid (k = V.seats.length) := hke
   clear hmay hven hke
   cases hmb : mayB (normU V ord) with
   | false =>
    rw [hmb] at hmay'
    have HM : Hid (mayB (normU V ord) = false) := hmb
    clear hmb
    go_wp2_with fail
    refine hmay'.mono ?_
    rintro e w7 ⟨rfl, hb⟩
    have t0 := (st.u.next hb).cell 0 _ rfl
    have t1 := (st.u.next hb).cell 1 _ rfl
    have t2 := (st.u.next hb).cell 2 _ rfl
    have t3 := (st.u.next hb).cell 3 _ rfl
    have t4 := (st.u.next hb).cell 4 _ rfl
    have tl := (st.u.next hb).lt
    have y0 := (st.b2.next hb).cell 0 _ rfl
    have f0 := (st.b2.next hb).frozen 0
    have y1 := (st.b2.next hb).cell 1 _ rfl
    have f1 := (st.b2.next hb).frozen 1
    have y2 := (st.b2.next hb).cell 2 _ rfl
    have f2 := (st.b2.next hb).frozen 2
    have y3 := (st.b2.next hb).cell 3 _ rfl
    have f3 := (st.b2.next hb).frozen 3
    have y4 := (st.b2.next hb).cell 4 _ rfl
    have f4 := (st.b2.next hb).frozen 4
    have yl := (st.b2.next hb).lt
    have B7 : Below w.heap.size w w7 := st.below.trans (hb.mono st.below.size)
    clear st hb hmay' u0 u1 u2 u3 u4
    go_wp2_with fail
    refine bodyPost_ret (v := .tuple #[venZ, .bool false]) (by simp [results, Tryz.results49, go_sem, y0, y1, y2, y3, y4]) rfl ⟨ord, HO.out, ?_, Or.inl ⟨HM.out, rfl⟩⟩
    exact Below.setCell (Below.setCell (Below.setCell (Below.setCell (Below.setCell B7 (by simp) _) (by simp) _) (by simp) _) (by simp) _) (by simp) _
   | true =>
    rw [hmb] at hmay'
    have HM : Hid (mayB (normU V ord) = true) := hmb
    clear hmb
    go_wp2_with fail
    refine hmay'.mono ?_
    rintro e w7 ⟨rfl, hb⟩
    have t0 := (st.u.next hb).cell 0 _ rfl
    have t1 := (st.u.next hb).cell 1 _ rfl
    have t2 := (st.u.next hb).cell 2 _ rfl
    have t3 := (st.u.next hb).cell 3 _ rfl
    have t4 := (st.u.next hb).cell 4 _ rfl
    have tl := (st.u.next hb).lt
    have y0 := (st.b2.next hb).cell 0 _ rfl
    have f0 := (st.b2.next hb).frozen 0
    have y1 := (st.b2.next hb).cell 1 _ rfl
    have f1 := (st.b2.next hb).frozen 1
    have y2 := (st.b2.next hb).cell 2 _ rfl
    have f2 := (st.b2.next hb).frozen 2
    have y3 := (st.b2.next hb).cell 3 _ rfl
    have f3 := (st.b2.next hb).frozen 3
    have y4 := (st.b2.next hb).cell 4 _ rfl
    have f4 := (st.b2.next hb).frozen 4
    have yl := (st.b2.next hb).lt
    have B7 : Below w.heap.size w w7 := st.below.trans (hb.mono st.below.size)
    have st7 := st.next hb
    clear st hb hmay' u0 u1 u2 u3 u4
    go_wp2_with fail
    refine bodyPost_ret (v := .tuple #[venV az k cs V.gap V.radius ak m ck ap np cp, .bool true]) (by simp [results, Tryz.results49, go_sem, y0, y1, y2, y3, y4]) rfl ⟨ord, HO.out, ?_, Or.inr ⟨HM.out, az, k, cs, ak, m, ck, ap, np, cp, rfl, ?_⟩⟩
    ·exact Below.setCell (Below.setCell (Below.setCell (Below.setCell (Below.setCell B7 (by simp) _) (by simp) _) (by simp) _) (by simp) _) (by simp) _
    ·exact ven_rows (row_set5 st7.b2 (by decide) st7.so _ _ _ _ _) (row_set5 st7.b2 (by decide) st7.ko _ _ _ _ _) st7.ml (row_set5 st7.b2 (by decide) st7.po _ _ _ _ _) HKE.out HKE.out HO.out

/-- What venue.Norm may come to. -/
def NormTo (V : Ven) (r : Option Ven) : Prop :=
 (r = none ∧ (4096 < V.seats.length ∨ 200 < V.poles.length ∨ V.kills.all (fun k => isSeatB k V.seats.length) = false)) ∨
 (V.seats.length ≤ 4096 ∧ V.poles.length ≤ 200 ∧ V.kills.all (fun k => isSeatB k V.seats.length) = true ∧ ∃ ord, IsOrder V.seats ord ∧ r = if mayB (normU V ord) then some (normU V ord) else none)
def NormOwn (e : Ending) (w : World) : Option Ven → Prop
 | none => e = .returned (.tuple #[venZ, .bool false])
 | some U => ∃ b1 m1 d1 b2 m2 d2 b3 m3 d3, e = .returned (.tuple #[venV b1 m1 d1 U.gap U.radius b2 m2 d2 b3 m3 d3, .bool true]) ∧ VenOwn w b1 m1 d1 b2 m2 d2 b3 m3 d3 U
theorem norm_own (a1 a2 a3 : Option Addr) (n1 c1 n2 c2 n3 c3 : Nat) (V : Ven) (w : World) (h : VenAt w a1 n1 c1 a2 n2 c2 a3 n3 c3 V) :
  Calls Tryz.prog 49 #[venV a1 n1 c1 V.gap V.radius a2 n2 c2 a3 n3 c3] w fun e w' => ∃ r, NormTo V r ∧ NormOwn e w' r ∧ Below w.heap.size w w' := by
 have e1 := h.s.len
 have e3 := h.p.len
 by_cases h1 : V.seats.length ≤ 4096
 ·by_cases h3 : V.poles.length ≤ 200
  ·cases hin : V.kills.all (fun k => isSeatB k V.seats.length) with
   | false => exact (norm_bad a1 a2 a3 n1 c1 n2 c2 n3 c3 V w h h1 h3 hin).mono fun e w' ⟨he, hb⟩ => ⟨none, .inl ⟨rfl, .inr (.inr hin)⟩, he, hb⟩
   | true =>
    subst e1
    refine (norm_main a1 a2 a3 c1 n2 c2 n3 c3 V w h h1 h3 hin).mono ?_
    rintro e w' ⟨ord, ho, hb, ⟨hm, rfl⟩ | ⟨hm, b1, m1, d1, b2, m2, d2, b3, m3, d3, rfl, hv⟩⟩
    ·exact ⟨none, .inr ⟨h1, h3, hin, ord, ho, by rw [hm]; rfl⟩, rfl, hb⟩
    ·exact ⟨some (normU V ord), .inr ⟨h1, h3, hin, ord, ho, by rw [hm]; rfl⟩, ⟨b1, m1, d1, b2, m2, d2, b3, m3, d3, rfl, hv⟩, hb⟩
  ·exact (norm_many a1 a2 a3 n1 c1 n2 c2 n3 c3 V.gap V.radius (by omega) w).mono fun e w' ⟨he, hb⟩ => ⟨none, .inl ⟨rfl, by omega⟩, he, hb⟩
 ·exact (norm_many a1 a2 a3 n1 c1 n2 c2 n3 c3 V.gap V.radius (by omega) w).mono fun e w' ⟨he, hb⟩ => ⟨none, .inl ⟨rfl, by omega⟩, he, hb⟩
end Go.Proofs.YtgpkdjhllekihaaGreatDoor.Ven

namespace Go.Proofs.YtgpkdjhllekihaaGreatDoor.Ven
set_option linter.unusedVariables false
set_option maxRecDepth 100000
open Go.RowKit Go.Shelf

/-- What is known of the row that is being built, by what is done. -/
def InsG (l : List Seat) (j : Nat) (s : Seat) (W : World) (listed : Array Bool) (a : Act) (w : World) : Prop :=
 ∃ (rv : Value) (g7 : Nat),
  (listed.getD 17 false = true → a.tmps[66]? = some rv ∧ w.ownsRow W.heap.size 45 4 rv (l.length + 1) ((l.take j).flatMap seatC ++ seatC s ++ (l.drop j).flatMap seatC)) ∧
  (listed.getD 17 false = false → listed.getD 12 false = true → a.tmps[61]? = some rv ∧ w.ownsRow W.heap.size 45 4 rv (j + 1) ((l.take j).flatMap seatC ++ seatC s)) ∧
  (listed.getD 12 false = false → listed.getD 5 false = true → a.tmps[54]? = some rv ∧ w.ownsRow W.heap.size 45 4 rv j ((l.take j).flatMap seatC)) ∧
  (listed.getD 5 false = false → listed.getD 0 false = true → a.tmps[49]? = some rv ∧ w.ownsRow W.heap.size 45 4 rv 0 []) ∧
  (listed.getD 11 false = true → listed.getD 12 false = false → a.tmps[60]? = some (.slice (some ⟨g7, 0, none⟩) 1 1) ∧ Box w g7 45 #[.int .i64 s.row, .int .i64 s.x, .int .i64 s.y, .int .i64 s.kind] ∧ (listed.getD 0 false = true → rv.ownBlock ≠ some g7))
variable {l : List Seat} {j : Nat} {s : Seat} {W : World} {listed : Array Bool} {a : Act} {w : World}
theorem InsG.same (h : InsG l j s W listed a w) {i : Nat} (hne : i ≠ 0 ∧ i ≠ 5 ∧ i ≠ 11 ∧ i ≠ 12 ∧ i ≠ 17) (hls : i < listed.size) {a' : Act} (h49 : a'.tmps[49]? = a.tmps[49]?) (h54 : a'.tmps[54]? = a.tmps[54]?) (h60 : a'.tmps[60]? = a.tmps[60]?) (h61 : a'.tmps[61]? = a.tmps[61]?) (h66 : a'.tmps[66]? = a.tmps[66]?) : InsG l j s W (listed.setIfInBounds i true) a' w := by
 unfold InsG
 rw [getD_set hls, getD_set hls, getD_set hls, getD_set hls, getD_set hls, if_neg hne.1, if_neg hne.2.1, if_neg hne.2.2.1, if_neg hne.2.2.2.1, if_neg hne.2.2.2.2, h49, h54, h60, h61, h66]
 exact h
theorem InsG.first (h : InsG l j s W listed a w) (hls : 0 < listed.size) (hsz : a.tmps.size = 136) (n5 : listed.getD 5 false = false) (n12 : listed.getD 12 false = false) (n17 : listed.getD 17 false = false) (hb : W.heap.size ≤ w.heap.size) :
  InsG l j s W (listed.setIfInBounds 0 true) { tmps := a.tmps.setIfInBounds 49 (.slice (some ⟨w.heap.size, 0, none⟩) 0 0), defers := a.defers } (w.alloc (.cells #[] 45)) := by
 obtain ⟨rv, g7, _, _, _, _, h11⟩ := h
 refine ⟨.slice (some ⟨w.heap.size, 0, none⟩) 0 0, g7, ?_, ?_, ?_, ?_, ?_⟩
 ·rw [getD_set hls, if_neg (by omega), n17]; intro h; cases h
 ·rw [getD_set hls, if_neg (by omega), getD_set hls, if_neg (by omega), n12]; intro _ h; cases h
 ·rw [getD_set hls, if_neg (by omega), getD_set hls, if_neg (by omega), n5]; intro _ h; cases h
 ·intro _ _
  exact ⟨by simp [hsz], ⟨rfl, .inr ⟨_, 0, #[], rfl, hb, Box.fresh w 45 #[], Nat.le_refl _, by decide, rfl, rfl⟩⟩⟩
 ·rw [getD_set hls, if_neg (by omega), getD_set hls, if_neg (by omega)]
  intro h1 h2
  obtain ⟨q1, q2, _⟩ := h11 h1 h2
  exact ⟨by simpa using q1, q2.next (below_al w _), fun _ hc => by have := q2.lt; simp [Value.ownBlock] at hc; omega⟩
theorem InsG.one (h : InsG l j s W listed a w) (hls : 11 < listed.size) (hsz : a.tmps.size = 136) (n12 : listed.getD 12 false = false) (n17 : listed.getD 17 false = false) :
  InsG l j s W (listed.setIfInBounds 11 true) { tmps := a.tmps.setIfInBounds 60 (.slice (some ⟨w.heap.size, 0, none⟩) 1 1), defers := a.defers } (w.alloc (.cells #[.int .i64 s.row, .int .i64 s.x, .int .i64 s.y, .int .i64 s.kind] 45)) := by
 obtain ⟨rv, g7, _, _, h5, h0, h11⟩ := h
 refine ⟨rv, w.heap.size, ?_, ?_, ?_, ?_, ?_⟩
 ·rw [getD_set hls, if_neg (by omega), n17]; intro h; cases h
 ·rw [getD_set hls, if_neg (by omega), getD_set hls, if_neg (by omega), n12]; intro _ h; cases h
 ·rw [getD_set hls, if_neg (by omega), getD_set hls, if_neg (by omega)]
  intro h1 h2
  exact ⟨by simpa using (h5 h1 h2).1, row_next (h5 h1 h2).2 (below_al w _)⟩
 ·rw [getD_set hls, if_neg (by omega), getD_set hls, if_neg (by omega)]
  intro h1 h2
  exact ⟨by simpa using (h0 h1 h2).1, row_next (h0 h1 h2).2 (below_al w _)⟩
 ·intro _ _
  refine ⟨by simp [hsz], Box.fresh w 45 _, ?_⟩
  rw [getD_set hls, if_neg (by omega)]
  intro h
  cases h5' : listed.getD 5 false with
  | true => exact row_ne_size (h5 n12 h5').2
  | false => exact row_ne_size (h0 h5' h).2
theorem InsG.copied (hls : 5 < listed.size) (hsz : a.tmps.size = 136) (n12 : listed.getD 12 false = false) (n17 : listed.getD 17 false = false) (y0 : listed.getD 0 false = true) (n5 : listed.getD 5 false = false) {rv v2 : Value} {w2 : World} {xs : List Value} {g7 : Nat} (hown : w.ownsRow W.heap.size 45 4 rv 0 xs) (hown2 : w2.ownsRow W.heap.size 45 4 v2 j ((l.take j).flatMap seatC)) (hgr : w.grownBy w2 rv.ownBlock) (hloc : v2.ownBlock = rv.ownBlock ∨ v2.ownBlock = some w.heap.size)
  (h11 : listed.getD 11 false = true → listed.getD 12 false = false → a.tmps[60]? = some (.slice (some ⟨g7, 0, none⟩) 1 1) ∧ Box w g7 45 #[.int .i64 s.row, .int .i64 s.x, .int .i64 s.y, .int .i64 s.kind] ∧ (listed.getD 0 false = true → rv.ownBlock ≠ some g7)) :
  InsG l j s W (listed.setIfInBounds 5 true) { tmps := a.tmps.setIfInBounds 54 v2, defers := a.defers } w2 := by
 refine ⟨v2, g7, ?_, ?_, ?_, ?_, ?_⟩
 ·rw [getD_set hls, if_neg (by omega), n17]; intro h; cases h
 ·rw [getD_set hls, if_neg (by omega), getD_set hls, if_neg (by omega), n12]; intro _ h; cases h
 ·intro _ _; exact ⟨by simp [hsz], hown2⟩
 ·rw [getD_set hls, if_pos rfl]; intro h; cases h
 ·rw [getD_set hls, if_neg (by omega), getD_set hls, if_neg (by omega)]
  intro h1 h2
  obtain ⟨q1, q2, q3⟩ := h11 h1 h2
  exact ⟨by simpa using q1, q2.grown hgr (fun h => q3 y0 h.symm), fun _ => loc_ne (q3 y0) q2.lt hloc⟩
theorem InsG.put (hls : 12 < listed.size) (hsz : a.tmps.size = 136) (n17 : listed.getD 17 false = false) (y5 : listed.getD 5 false = true) {v2 : Value} {w2 : World} (hown2 : w2.ownsRow W.heap.size 45 4 v2 (j + 1) ((l.take j).flatMap seatC ++ seatC s)) :
  InsG l j s W (listed.setIfInBounds 12 true) { tmps := a.tmps.setIfInBounds 61 v2, defers := a.defers } w2 := by
 refine ⟨v2, 0, ?_, ?_, ?_, ?_, ?_⟩
 ·rw [getD_set hls, if_neg (by omega), n17]; intro h; cases h
 ·intro _ _; exact ⟨by simp [hsz], hown2⟩
 ·rw [getD_set hls, if_pos rfl]; intro h; cases h
 ·rw [getD_set hls, if_neg (by omega), y5]; intro h; cases h
 ·rw [getD_set hls, if_neg (by omega), getD_set hls, if_pos rfl]; intro _ h; cases h
theorem InsG.all (hls : 17 < listed.size) (hsz : a.tmps.size = 136) (y12 : listed.getD 12 false = true) (y5 : listed.getD 5 false = true) {v2 : Value} {w2 : World} (hown2 : w2.ownsRow W.heap.size 45 4 v2 (l.length + 1) ((l.take j).flatMap seatC ++ seatC s ++ (l.drop j).flatMap seatC)) :
  InsG l j s W (listed.setIfInBounds 17 true) { tmps := a.tmps.setIfInBounds 66 v2, defers := a.defers } w2 := by
 refine ⟨v2, 0, ?_, ?_, ?_, ?_, ?_⟩
 ·intro _; exact ⟨by simp [hsz], hown2⟩
 ·rw [getD_set hls, if_pos rfl]; intro h; cases h
 ·rw [getD_set hls, if_neg (by omega), y12]; intro h; cases h
 ·rw [getD_set hls, if_neg (by omega), y5]; intro h; cases h
 ·rw [getD_set hls, if_neg (by omega), getD_set hls, if_neg (by omega), y12]; intro _ h; cases h
def opsInsn : Array Oper := #[{ dst := some 49, op := Op.buildSlice 30 0 #[], type := 30, pos := "ref.go:225", after := #[], guard := none }, { dst := some 50, op := Op.fieldAddr 33 (Operand.tmp 4) 0, type := 0, pos := "ref.go:225", after := #[], guard := none }, { dst := some 51, op := Op.load 30 (Operand.tmp 50), type := 30, pos := "ref.go:225", after := #[{ on := 1, ground := Ground.data }], guard := none }, { dst := some 52, op := Op.move (Operand.tmp 6), type := 3, pos := "ref.go:225", after := #[], guard := none }, { dst := some 53, op := Op.slice 30 (Operand.tmp 51) none (some (Operand.tmp 52)) none, type := 30, pos := "ref.go:225", after := #[{ on := 2, ground := Ground.data }, { on := 3, ground := Ground.data }], guard := none }, { dst := some 54, op := Op.call { callee := Callee.builtin Builtin.append, args := #[Operand.tmp 49, Operand.tmp 53], argTypes := #[30, 30] }, type := 30, pos := "ref.go:225", after := #[{ on := 0, ground := Ground.data }, { on := 4, ground := Ground.data }], guard := none }, { dst := some 55, op := Op.fieldAddr 33 (Operand.tmp 1) 0, type := 0, pos := "ref.go:225", after := #[], guard := none }, { dst := some 56, op := Op.load 30 (Operand.tmp 55), type := 30, pos := "ref.go:225", after := #[{ on := 6, ground := Ground.data }], guard := none }, { dst := some 57, op := Op.move (Operand.tmp 5), type := 3, pos := "ref.go:225", after := #[], guard := none }, { dst := some 58, op := Op.indexAddr 30 (Operand.tmp 56) (Operand.tmp 57), type := 0, pos := "ref.go:225", after := #[{ on := 7, ground := Ground.data }, { on := 8, ground := Ground.data }], guard := none }, { dst := some 59, op := Op.load 45 (Operand.tmp 58), type := 45, pos := "ref.go:225", after := #[{ on := 9, ground := Ground.data }], guard := none }, { dst := some 60, op := Op.buildSlice 30 1 #[(0, Operand.tmp 59)], type := 30, pos := "ref.go:225", after := #[{ on := 10, ground := Ground.data }], guard := none }, { dst := some 61, op := Op.call { callee := Callee.builtin Builtin.append, args := #[Operand.tmp 54, Operand.tmp 60], argTypes := #[30, 30] }, type := 30, pos := "ref.go:225", after := #[{ on := 5, ground := Ground.data }, { on := 11, ground := Ground.data }, { on := 5, ground := Ground.chain }], guard := none }, { dst := some 62, op := Op.fieldAddr 33 (Operand.tmp 4) 0, type := 0, pos := "ref.go:225", after := #[], guard := none }, { dst := some 63, op := Op.load 30 (Operand.tmp 62), type := 30, pos := "ref.go:225", after := #[{ on := 13, ground := Ground.data }], guard := none }, { dst := some 64, op := Op.move (Operand.tmp 6), type := 3, pos := "ref.go:225", after := #[], guard := none }, { dst := some 65, op := Op.slice 30 (Operand.tmp 63) (some (Operand.tmp 64)) none none, type := 30, pos := "ref.go:225", after := #[{ on := 14, ground := Ground.data }, { on := 15, ground := Ground.data }], guard := none }, { dst := some 66, op := Op.call { callee := Callee.builtin Builtin.append, args := #[Operand.tmp 61, Operand.tmp 65], argTypes := #[30, 30] }, type := 30, pos := "ref.go:225", after := #[{ on := 12, ground := Ground.data }, { on := 16, ground := Ground.data }, { on := 12, ground := Ground.chain }], guard := none }, { dst := some 67, op := Op.fieldAddr 33 (Operand.tmp 4) 0, type := 0, pos := "ref.go:225", after := #[{ on := 0, ground := Ground.phase }, { on := 1, ground := Ground.phase }, { on := 2, ground := Ground.phase }, { on := 3, ground := Ground.phase }, { on := 4, ground := Ground.phase }, { on := 5, ground := Ground.phase }, { on := 6, ground := Ground.phase }, { on := 7, ground := Ground.phase }, { on := 8, ground := Ground.phase }, { on := 9, ground := Ground.phase }, { on := 10, ground := Ground.phase }, { on := 11, ground := Ground.phase }, { on := 12, ground := Ground.phase }, { on := 13, ground := Ground.phase }, { on := 14, ground := Ground.phase }, { on := 15, ground := Ground.phase }, { on := 16, ground := Ground.phase }, { on := 17, ground := Ground.phase }], guard := none }, { dst := none, op := Op.store 30 (Operand.tmp 67) (Operand.tmp 66), type := 0, pos := "ref.go:225", after := #[{ on := 18, ground := Ground.data }, { on := 17, ground := Ground.data }, { on := 17, ground := Ground.chain }, { on := 0, ground := Ground.phase }, { on := 1, ground := Ground.phase }, { on := 2, ground := Ground.phase }, { on := 3, ground := Ground.phase }, { on := 4, ground := Ground.phase }, { on := 5, ground := Ground.phase }, { on := 6, ground := Ground.phase }, { on := 7, ground := Ground.phase }, { on := 8, ground := Ground.phase }, { on := 9, ground := Ground.phase }, { on := 10, ground := Ground.phase }, { on := 11, ground := Ground.phase }, { on := 12, ground := Ground.phase }, { on := 13, ground := Ground.phase }, { on := 14, ground := Ground.phase }, { on := 15, ground := Ground.phase }, { on := 16, ground := Ground.phase }, { on := 17, ground := Ground.phase }], guard := none }]
def dstInsn : List (Option Nat) := [some 49, some 50, some 51, some 52, some 53, some 54, some 55, some 56, some 57, some 58, some 59, some 60, some 61, some 62, some 63, some 64, some 65, some 66, some 67, none]
theorem dstInsn_apart : dstInsn.Pairwise (fun x y => x = none ∨ x ≠ y) := by decide
set_option maxHeartbeats 16000000 in
theorem region12_8n (Q : Exit → Act → World → Prop) (i n vb vo vc : Nat) (hin : i < n) (r x y kk : Int) (v1 v2 v3 v4 w1 w2' w3 w4 : Value) (b1 b4 : Nat) (W0 : World)
  (hV0 : Box W0 b1 33 #[.slice (some ⟨vb, vo, none⟩) n vc, v1, v2, v3, v4]) (hT0 : SeatAt W0 vb (vo + i * 4) r x y kk) (hU0 : Box W0 b4 33 #[.slice none 0 0, w1, w2', w3, w4])
  (A0 A2 A3 A7 A8 A9 B0 B1 B2 B3 B4 B5 B6 B7 B8 B9 C0 C1 C2 C3 C4 C5 C6 C7 C8 C9 D0 D1 D2 D3 D4 D5 D6 D7 D8 D9 E0 E1 E2 E3 E4 E5 E6 E7 E8 E9 F0 F1 F2 F3 F4 F5 F6 F7 F8 F9 G0 G1 G2 G3 G4 G5 G6 G7 G8 G9 H0 H1 H2 H3 H4 H5 H6 H7 H8 H9 I0 I1 I2 I3 I4 I5 I6 I7 I8 I9 J0 J1 J2 J3 J4 J5 J6 J7 J8 J9 K0 K1 K2 K3 K4 K5 K6 K7 K8 K9 L0 L1 L2 L3 L4 L5 L6 L7 L8 L9 M0 M1 M2 M3 M4 M5 M6 M7 M8 M9 N0 N1 N2 N3 N4 N5 : Value)
  (hQ : ∀ W' x0 x5 x11 x12 a13 c13, Below W0.heap.size W0 W' → W'.ownsRow W0.heap.size 45 4 (.slice a13 1 c13) (0 + 1) (seatC ⟨r, x, y, kk⟩) → Q .normal { tmps := (A0::.pointer (some ⟨b1, 0, none⟩)::A2::A3::.pointer (some ⟨b4, 0, none⟩)::.int .i64 (i : Int)::.int .i64 0::A7::A8::A9::B0::B1::B2::B3::B4::B5::B6::B7::B8::B9::C0::C1::C2::C3::C4::C5::C6::C7::C8::C9::D0::D1::D2::D3::D4::D5::D6::D7::D8::D9::E0::E1::E2::E3::E4::E5::E6::E7::E8::x0::.pointer (some ⟨b4, 0, none⟩)::.slice none 0 0::.int .i64 0::.slice none 0 0::x5::.pointer (some ⟨b1, 0, none⟩)::.slice (some ⟨vb, vo, none⟩) n vc::.int .i64 (i : Int)::.pointer (some ⟨vb, vo + i * 4, none⟩)::seatV r x y kk::x11::x12::.pointer (some ⟨b4, 0, none⟩)::.slice none 0 0::.int .i64 0::.slice none 0 0::.slice a13 1 c13::.pointer (some ⟨b4, 0, none⟩)::G8::G9::H0::H1::H2::H3::H4::H5::H6::H7::H8::H9::I0::I1::I2::I3::I4::I5::I6::I7::I8::I9::J0::J1::J2::J3::J4::J5::J6::J7::J8::J9::K0::K1::K2::K3::K4::K5::K6::K7::K8::K9::L0::L1::L2::L3::L4::L5::L6::L7::L8::L9::M0::M1::M2::M3::M4::M5::M6::M7::M8::M9::N0::N1::N2::N3::N4::N5::[]).toArray, defers := [] } (W'.setCell ⟨b4, 0, none⟩ (.slice a13 1 c13))) :
  (Code.region 8 #[{ dst := some 49, op := Op.buildSlice 30 0 #[], type := 30, pos := "ref.go:225", after := #[], guard := none }, { dst := some 50, op := Op.fieldAddr 33 (Operand.tmp 4) 0, type := 0, pos := "ref.go:225", after := #[], guard := none }, { dst := some 51, op := Op.load 30 (Operand.tmp 50), type := 30, pos := "ref.go:225", after := #[{ on := 1, ground := Ground.data }], guard := none }, { dst := some 52, op := Op.move (Operand.tmp 6), type := 3, pos := "ref.go:225", after := #[], guard := none }, { dst := some 53, op := Op.slice 30 (Operand.tmp 51) none (some (Operand.tmp 52)) none, type := 30, pos := "ref.go:225", after := #[{ on := 2, ground := Ground.data }, { on := 3, ground := Ground.data }], guard := none }, { dst := some 54, op := Op.call { callee := Callee.builtin Builtin.append, args := #[Operand.tmp 49, Operand.tmp 53], argTypes := #[30, 30] }, type := 30, pos := "ref.go:225", after := #[{ on := 0, ground := Ground.data }, { on := 4, ground := Ground.data }], guard := none }, { dst := some 55, op := Op.fieldAddr 33 (Operand.tmp 1) 0, type := 0, pos := "ref.go:225", after := #[], guard := none }, { dst := some 56, op := Op.load 30 (Operand.tmp 55), type := 30, pos := "ref.go:225", after := #[{ on := 6, ground := Ground.data }], guard := none }, { dst := some 57, op := Op.move (Operand.tmp 5), type := 3, pos := "ref.go:225", after := #[], guard := none }, { dst := some 58, op := Op.indexAddr 30 (Operand.tmp 56) (Operand.tmp 57), type := 0, pos := "ref.go:225", after := #[{ on := 7, ground := Ground.data }, { on := 8, ground := Ground.data }], guard := none }, { dst := some 59, op := Op.load 45 (Operand.tmp 58), type := 45, pos := "ref.go:225", after := #[{ on := 9, ground := Ground.data }], guard := none }, { dst := some 60, op := Op.buildSlice 30 1 #[(0, Operand.tmp 59)], type := 30, pos := "ref.go:225", after := #[{ on := 10, ground := Ground.data }], guard := none }, { dst := some 61, op := Op.call { callee := Callee.builtin Builtin.append, args := #[Operand.tmp 54, Operand.tmp 60], argTypes := #[30, 30] }, type := 30, pos := "ref.go:225", after := #[{ on := 5, ground := Ground.data }, { on := 11, ground := Ground.data }, { on := 5, ground := Ground.chain }], guard := none }, { dst := some 62, op := Op.fieldAddr 33 (Operand.tmp 4) 0, type := 0, pos := "ref.go:225", after := #[], guard := none }, { dst := some 63, op := Op.load 30 (Operand.tmp 62), type := 30, pos := "ref.go:225", after := #[{ on := 13, ground := Ground.data }], guard := none }, { dst := some 64, op := Op.move (Operand.tmp 6), type := 3, pos := "ref.go:225", after := #[], guard := none }, { dst := some 65, op := Op.slice 30 (Operand.tmp 63) (some (Operand.tmp 64)) none none, type := 30, pos := "ref.go:225", after := #[{ on := 14, ground := Ground.data }, { on := 15, ground := Ground.data }], guard := none }, { dst := some 66, op := Op.call { callee := Callee.builtin Builtin.append, args := #[Operand.tmp 61, Operand.tmp 65], argTypes := #[30, 30] }, type := 30, pos := "ref.go:225", after := #[{ on := 12, ground := Ground.data }, { on := 16, ground := Ground.data }, { on := 12, ground := Ground.chain }], guard := none }, { dst := some 67, op := Op.fieldAddr 33 (Operand.tmp 4) 0, type := 0, pos := "ref.go:225", after := #[{ on := 0, ground := Ground.phase }, { on := 1, ground := Ground.phase }, { on := 2, ground := Ground.phase }, { on := 3, ground := Ground.phase }, { on := 4, ground := Ground.phase }, { on := 5, ground := Ground.phase }, { on := 6, ground := Ground.phase }, { on := 7, ground := Ground.phase }, { on := 8, ground := Ground.phase }, { on := 9, ground := Ground.phase }, { on := 10, ground := Ground.phase }, { on := 11, ground := Ground.phase }, { on := 12, ground := Ground.phase }, { on := 13, ground := Ground.phase }, { on := 14, ground := Ground.phase }, { on := 15, ground := Ground.phase }, { on := 16, ground := Ground.phase }, { on := 17, ground := Ground.phase }], guard := none }, { dst := none, op := Op.store 30 (Operand.tmp 67) (Operand.tmp 66), type := 0, pos := "ref.go:225", after := #[{ on := 18, ground := Ground.data }, { on := 17, ground := Ground.data }, { on := 17, ground := Ground.chain }, { on := 0, ground := Ground.phase }, { on := 1, ground := Ground.phase }, { on := 2, ground := Ground.phase }, { on := 3, ground := Ground.phase }, { on := 4, ground := Ground.phase }, { on := 5, ground := Ground.phase }, { on := 6, ground := Ground.phase }, { on := 7, ground := Ground.phase }, { on := 8, ground := Ground.phase }, { on := 9, ground := Ground.phase }, { on := 10, ground := Ground.phase }, { on := 11, ground := Ground.phase }, { on := 12, ground := Ground.phase }, { on := 13, ground := Ground.phase }, { on := 14, ground := Ground.phase }, { on := 15, ground := Ground.phase }, { on := 16, ground := Ground.phase }, { on := 17, ground := Ground.phase }], guard := none }] true).wp Tryz.prog Q { tmps := (A0::.pointer (some ⟨b1, 0, none⟩)::A2::A3::.pointer (some ⟨b4, 0, none⟩)::.int .i64 (i : Int)::.int .i64 0::A7::A8::A9::B0::B1::B2::B3::B4::B5::B6::B7::B8::B9::C0::C1::C2::C3::C4::C5::C6::C7::C8::C9::D0::D1::D2::D3::D4::D5::D6::D7::D8::D9::E0::E1::E2::E3::E4::E5::E6::E7::E8::E9::F0::F1::F2::F3::F4::F5::F6::F7::F8::F9::G0::G1::G2::G3::G4::G5::G6::G7::G8::G9::H0::H1::H2::H3::H4::H5::H6::H7::H8::H9::I0::I1::I2::I3::I4::I5::I6::I7::I8::I9::J0::J1::J2::J3::J4::J5::J6::J7::J8::J9::K0::K1::K2::K3::K4::K5::K6::K7::K8::K9::L0::L1::L2::L3::L4::L5::L6::L7::L8::L9::M0::M1::M2::M3::M4::M5::M6::M7::M8::M9::N0::N1::N2::N3::N4::N5::[]).toArray, defers := [] } W0 := by
 obtain ⟨i0, hi, hz0, hz1, hz2⟩ := info34
 obtain ⟨W, hWd⟩ : ∃ W, W = W0.drew := ⟨_, rfl⟩
 have hszd : W.heap.size = W0.heap.size := by rw [hWd]; rfl
 have hbd : Below W0.heap.size W0 W := by rw [hWd]; exact (Below.refl _ W0).drew
 have hV := hV0.next hbd
 have hT := hT0.next hbd
 have hU := hU0.next hbd
 have hiz : (i : Int) < (n : Int) := by omega
 have hn := dstInsn_apart
 show (Code.region 8 opsInsn true).wp Tryz.prog Q _ W0
 refine wp_region_inv (by kernel_rfl) (fun listed a w => Slots { tmps := (A0::.pointer (some ⟨b1, 0, none⟩)::A2::A3::.pointer (some ⟨b4, 0, none⟩)::.int .i64 (i : Int)::.int .i64 0::A7::A8::A9::B0::B1::B2::B3::B4::B5::B6::B7::B8::B9::C0::C1::C2::C3::C4::C5::C6::C7::C8::C9::D0::D1::D2::D3::D4::D5::D6::D7::D8::D9::E0::E1::E2::E3::E4::E5::E6::E7::E8::E9::F0::F1::F2::F3::F4::F5::F6::F7::F8::F9::G0::G1::G2::G3::G4::G5::G6::G7::G8::G9::H0::H1::H2::H3::H4::H5::H6::H7::H8::H9::I0::I1::I2::I3::I4::I5::I6::I7::I8::I9::J0::J1::J2::J3::J4::J5::J6::J7::J8::J9::K0::K1::K2::K3::K4::K5::K6::K7::K8::K9::L0::L1::L2::L3::L4::L5::L6::L7::L8::L9::M0::M1::M2::M3::M4::M5::M6::M7::M8::M9::N0::N1::N2::N3::N4::N5::[]).toArray, defers := [] } dstInsn [none, some (.pointer (some ⟨b4, 0, none⟩)), some (.slice none 0 0), some (.int .i64 0), some (.slice none 0 0), none, some (.pointer (some ⟨b1, 0, none⟩)), some (.slice (some ⟨vb, vo, none⟩) n vc), some (.int .i64 (i : Int)), some (.pointer (some ⟨vb, vo + i * 4, none⟩)), some (seatV r x y kk), none, none, some (.pointer (some ⟨b4, 0, none⟩)), some (.slice none 0 0), some (.int .i64 0), some (.slice none 0 0), none, some (.pointer (some ⟨b4, 0, none⟩)), none] listed a ∧ ((listed.getD 19 false = false ∧ Below W.heap.size W w ∧ InsG [] 0 ⟨r, x, y, kk⟩ W listed a w) ∨ (listed.getD 19 false = true ∧ ∃ w1 a13 c13, w = w1.setCell ⟨b4, 0, none⟩ (.slice a13 1 c13) ∧ Below W.heap.size W w1 ∧ a.tmps[66]? = some (.slice a13 1 c13) ∧ w1.ownsRow W.heap.size 45 4 (.slice a13 1 c13) (0 + 1) (seatC ⟨r, x, y, kk⟩)))) (by kernel_rfl) ?_ ?_ ?_
 ·refine ⟨Slots.start _ _ _ _, .inl ⟨start_false _ _, by rw [hWd]; exact Below.refl _ _, .slice none 0 0, 0, ?_, ?_, ?_, ?_, ?_⟩⟩
  all_goals first | (intro _ h; rw [start_false] at h; cases h; done) | (intro h; rw [start_false] at h; cases h; done) | (trace_state; skip)
 ·intro listed a w i' hsl hilt hl hd hcl ⟨hS, hI⟩
  have hsz : Hid (a.tmps.size = 136) := hS.size
  have hls : i' < listed.size := by rw [hsl]; exact hilt
  have hcase : i' = 0 ∨ i' = 1 ∨ i' = 2 ∨ i' = 3 ∨ i' = 4 ∨ i' = 5 ∨ i' = 6 ∨ i' = 7 ∨ i' = 8 ∨ i' = 9 ∨ i' = 10 ∨ i' = 11 ∨ i' = 12 ∨ i' = 13 ∨ i' = 14 ∨ i' = 15 ∨ i' = 16 ∨ i' = 17 ∨ i' = 18 ∨ i' = 19 := by
   have : i' < 20 := hilt
   omega
  rcases hcase with rfl | rfl | rfl | rfl | rfl | rfl | rfl | rfl | rfl | rfl | rfl | rfl | rfl | rfl | rfl | rfl | rfl | rfl | rfl | rfl
  ·
   refine wpOp_step (o := { dst := some 49, op := Op.buildSlice 30 0 #[], type := 30, pos := "ref.go:225", after := #[], guard := none }) rfl ?_
   intro K hK
   have h19 : listed.getD 19 false = false := by
    cases h : listed.getD 19 false with
    | false => rfl
    | true => rw [hcl 19 0 h (of_decide_eq_true (by kernel_rfl))] at hl; cases hl
   obtain ⟨hb, hG⟩ : Below W.heap.size W w ∧ InsG [] 0 ⟨r, x, y, kk⟩ W listed a w := by
    rcases hI with ⟨_, hb, hG⟩ | ⟨h, _⟩
    ·exact ⟨hb, hG⟩
    ·rw [h19] at h; cases h
   have n5 : listed.getD 5 false = false := by
    cases h : listed.getD 5 false with
    | false => rfl
    | true => rw [hcl 5 0 h (of_decide_eq_true (by kernel_rfl))] at hl; cases hl
   have n12 : listed.getD 12 false = false := by
    cases h : listed.getD 12 false with
    | false => rfl
    | true => rw [hcl 12 5 h (of_decide_eq_true (by kernel_rfl))] at n5; cases n5
   have n17 : listed.getD 17 false = false := by
    cases h : listed.getD 17 false with
    | false => rfl
    | true => rw [hcl 17 12 h (of_decide_eq_true (by kernel_rfl))] at n12; cases n12
   go_simp
   refine hK _ _ ⟨(hS.put hn 0 49 _ rfl (by show 49 < 136; omega) (fun u h => by injection h with h; cases h)), .inl ⟨by rw [getD_set hls, if_neg (by omega)]; exact h19, hb.alloc hb.size _, ?_⟩⟩
   exact hG.first hls hsz.out n5 n12 n17 hb.size
  ·
   refine wpOp_step (o := { dst := some 50, op := Op.fieldAddr 33 (Operand.tmp 4) 0, type := 0, pos := "ref.go:225", after := #[], guard := none }) rfl ?_
   intro K hK
   have h19 : listed.getD 19 false = false := by
    cases h : listed.getD 19 false with
    | false => rfl
    | true => rw [hcl 19 1 h (of_decide_eq_true (by kernel_rfl))] at hl; cases hl
   obtain ⟨hb, hG⟩ : Below W.heap.size W w ∧ InsG [] 0 ⟨r, x, y, kk⟩ W listed a w := by
    rcases hI with ⟨_, hb, hG⟩ | ⟨h, _⟩
    ·exact ⟨hb, hG⟩
    ·rw [h19] at h; cases h
   have q4 : a.tmps[4]? = some (.pointer (some ⟨b4, 0, none⟩)) := (hS.keep 4 (of_decide_eq_true (by kernel_rfl))).trans rfl
   go_simp
   exact hK _ _ ⟨(hS.put hn 1 50 _ rfl (by show 50 < 136; omega) (fun u h => by injection h with h; injection h with h; exact h.symm)), .inl ⟨by rw [getD_set hls, if_neg (by omega)]; exact h19, hb, hG.same (by omega) hls (by simp) (by simp) (by simp) (by simp) (by simp)⟩⟩
  ·
   refine wpOp_step (o := { dst := some 51, op := Op.load 30 (Operand.tmp 50), type := 30, pos := "ref.go:225", after := #[{ on := 1, ground := Ground.data }], guard := none }) rfl ?_
   intro K hK
   have h19 : listed.getD 19 false = false := by
    cases h : listed.getD 19 false with
    | false => rfl
    | true => rw [hcl 19 2 h (of_decide_eq_true (by kernel_rfl))] at hl; cases hl
   obtain ⟨hb, hG⟩ : Below W.heap.size W w ∧ InsG [] 0 ⟨r, x, y, kk⟩ W listed a w := by
    rcases hI with ⟨_, hb, hG⟩ | ⟨h, _⟩
    ·exact ⟨hb, hG⟩
    ·rw [h19] at h; cases h
   have q50 : a.tmps[50]? = some (.pointer (some ⟨b4, 0, none⟩)) := hS.val 1 50 _ (hd 1 (of_decide_eq_true (by kernel_rfl))) rfl rfl
   have m0 := (hU.next hb).cell 0 _ rfl
   go_simp
   exact hK _ _ ⟨(hS.put hn 2 51 _ rfl (by show 51 < 136; omega) (fun u h => by injection h with h; injection h with h; exact h.symm)), .inl ⟨by rw [getD_set hls, if_neg (by omega)]; exact h19, hb, hG.same (by omega) hls (by simp) (by simp) (by simp) (by simp) (by simp)⟩⟩
  ·
   refine wpOp_step (o := { dst := some 52, op := Op.move (Operand.tmp 6), type := 3, pos := "ref.go:225", after := #[], guard := none }) rfl ?_
   intro K hK
   have h19 : listed.getD 19 false = false := by
    cases h : listed.getD 19 false with
    | false => rfl
    | true => rw [hcl 19 3 h (of_decide_eq_true (by kernel_rfl))] at hl; cases hl
   obtain ⟨hb, hG⟩ : Below W.heap.size W w ∧ InsG [] 0 ⟨r, x, y, kk⟩ W listed a w := by
    rcases hI with ⟨_, hb, hG⟩ | ⟨h, _⟩
    ·exact ⟨hb, hG⟩
    ·rw [h19] at h; cases h
   have q6 : a.tmps[6]? = some (.int .i64 0) := (hS.keep 6 (of_decide_eq_true (by kernel_rfl))).trans rfl
   go_simp
   exact hK _ _ ⟨(hS.put hn 3 52 _ rfl (by show 52 < 136; omega) (fun u h => by injection h with h; injection h with h; exact h.symm)), .inl ⟨by rw [getD_set hls, if_neg (by omega)]; exact h19, hb, hG.same (by omega) hls (by simp) (by simp) (by simp) (by simp) (by simp)⟩⟩
  ·
   refine wpOp_step (o := { dst := some 53, op := Op.slice 30 (Operand.tmp 51) none (some (Operand.tmp 52)) none, type := 30, pos := "ref.go:225", after := #[{ on := 2, ground := Ground.data }, { on := 3, ground := Ground.data }], guard := none }) rfl ?_
   intro K hK
   have h19 : listed.getD 19 false = false := by
    cases h : listed.getD 19 false with
    | false => rfl
    | true => rw [hcl 19 4 h (of_decide_eq_true (by kernel_rfl))] at hl; cases hl
   obtain ⟨hb, hG⟩ : Below W.heap.size W w ∧ InsG [] 0 ⟨r, x, y, kk⟩ W listed a w := by
    rcases hI with ⟨_, hb, hG⟩ | ⟨h, _⟩
    ·exact ⟨hb, hG⟩
    ·rw [h19] at h; cases h
   have q51 : a.tmps[51]? = some (.slice none 0 0) := hS.val 2 51 _ (hd 2 (of_decide_eq_true (by kernel_rfl))) rfl rfl
   have q52 : a.tmps[52]? = some (.int .i64 0) := hS.val 3 52 _ (hd 3 (of_decide_eq_true (by kernel_rfl))) rfl rfl
   go_simp
   exact hK _ _ ⟨(hS.put hn 4 53 _ rfl (by show 53 < 136; omega) (fun u h => by injection h with h; injection h with h; exact h.symm)), .inl ⟨by rw [getD_set hls, if_neg (by omega)]; exact h19, hb, hG.same (by omega) hls (by simp) (by simp) (by simp) (by simp) (by simp)⟩⟩
  ·
   refine wpOp_step (o := { dst := some 54, op := Op.call { callee := Callee.builtin Builtin.append, args := #[Operand.tmp 49, Operand.tmp 53], argTypes := #[30, 30] }, type := 30, pos := "ref.go:225", after := #[{ on := 0, ground := Ground.data }, { on := 4, ground := Ground.data }], guard := none }) rfl ?_
   intro K hK
   have h19 : listed.getD 19 false = false := by
    cases h : listed.getD 19 false with
    | false => rfl
    | true => rw [hcl 19 5 h (of_decide_eq_true (by kernel_rfl))] at hl; cases hl
   obtain ⟨hb, hG⟩ : Below W.heap.size W w ∧ InsG [] 0 ⟨r, x, y, kk⟩ W listed a w := by
    rcases hI with ⟨_, hb, hG⟩ | ⟨h, _⟩
    ·exact ⟨hb, hG⟩
    ·rw [h19] at h; cases h
   have n12 : listed.getD 12 false = false := by
    cases h : listed.getD 12 false with
    | false => rfl
    | true => rw [hcl 12 5 h (of_decide_eq_true (by kernel_rfl))] at hl; cases hl
   have n17 : listed.getD 17 false = false := by
    cases h : listed.getD 17 false with
    | false => rfl
    | true => rw [hcl 17 12 h (of_decide_eq_true (by kernel_rfl))] at n12; cases n12
   obtain ⟨rv, g7, _, _, _, h0, h11⟩ := hG
   obtain ⟨e0, hown⟩ := h0 hl (hd 0 (of_decide_eq_true (by kernel_rfl)))
   obtain ⟨ra, rc, rfl⟩ := row_slice hown
   have q53 : a.tmps[53]? = some (.slice none 0 0) := hS.val 4 53 _ (hd 4 (of_decide_eq_true (by kernel_rfl))) rfl rfl
   refine step_append_no rfl 30 (by decide) rfl _ _ rfl _ _ _ (eval_of e0) (row_cap hown) (eval_of q53) ?_
   refine hK _ _ ⟨(hS.put hn 5 54 _ rfl (by show 54 < 136; omega) (fun u h => by injection h with h; cases h)), .inl ⟨by rw [getD_set hls, if_neg (by omega)]; exact h19, hb, ?_⟩⟩
   exact InsG.copied hls hsz.out n12 n17 (hd 0 (of_decide_eq_true (by kernel_rfl))) hl hown hown ⟨rfl, rfl, rfl, Nat.le_refl _, fun _ _ _ => rfl⟩ (.inl rfl) h11
  ·
   refine wpOp_step (o := { dst := some 55, op := Op.fieldAddr 33 (Operand.tmp 1) 0, type := 0, pos := "ref.go:225", after := #[], guard := none }) rfl ?_
   intro K hK
   have h19 : listed.getD 19 false = false := by
    cases h : listed.getD 19 false with
    | false => rfl
    | true => rw [hcl 19 6 h (of_decide_eq_true (by kernel_rfl))] at hl; cases hl
   obtain ⟨hb, hG⟩ : Below W.heap.size W w ∧ InsG [] 0 ⟨r, x, y, kk⟩ W listed a w := by
    rcases hI with ⟨_, hb, hG⟩ | ⟨h, _⟩
    ·exact ⟨hb, hG⟩
    ·rw [h19] at h; cases h
   have q1 : a.tmps[1]? = some (.pointer (some ⟨b1, 0, none⟩)) := (hS.keep 1 (of_decide_eq_true (by kernel_rfl))).trans rfl
   go_simp
   exact hK _ _ ⟨(hS.put hn 6 55 _ rfl (by show 55 < 136; omega) (fun u h => by injection h with h; injection h with h; exact h.symm)), .inl ⟨by rw [getD_set hls, if_neg (by omega)]; exact h19, hb, hG.same (by omega) hls (by simp) (by simp) (by simp) (by simp) (by simp)⟩⟩
  ·
   refine wpOp_step (o := { dst := some 56, op := Op.load 30 (Operand.tmp 55), type := 30, pos := "ref.go:225", after := #[{ on := 6, ground := Ground.data }], guard := none }) rfl ?_
   intro K hK
   have h19 : listed.getD 19 false = false := by
    cases h : listed.getD 19 false with
    | false => rfl
    | true => rw [hcl 19 7 h (of_decide_eq_true (by kernel_rfl))] at hl; cases hl
   obtain ⟨hb, hG⟩ : Below W.heap.size W w ∧ InsG [] 0 ⟨r, x, y, kk⟩ W listed a w := by
    rcases hI with ⟨_, hb, hG⟩ | ⟨h, _⟩
    ·exact ⟨hb, hG⟩
    ·rw [h19] at h; cases h
   have q55 : a.tmps[55]? = some (.pointer (some ⟨b1, 0, none⟩)) := hS.val 6 55 _ (hd 6 (of_decide_eq_true (by kernel_rfl))) rfl rfl
   have m0 := (hV.next hb).cell 0 _ rfl
   go_simp
   exact hK _ _ ⟨(hS.put hn 7 56 _ rfl (by show 56 < 136; omega) (fun u h => by injection h with h; injection h with h; exact h.symm)), .inl ⟨by rw [getD_set hls, if_neg (by omega)]; exact h19, hb, hG.same (by omega) hls (by simp) (by simp) (by simp) (by simp) (by simp)⟩⟩
  ·
   refine wpOp_step (o := { dst := some 57, op := Op.move (Operand.tmp 5), type := 3, pos := "ref.go:225", after := #[], guard := none }) rfl ?_
   intro K hK
   have h19 : listed.getD 19 false = false := by
    cases h : listed.getD 19 false with
    | false => rfl
    | true => rw [hcl 19 8 h (of_decide_eq_true (by kernel_rfl))] at hl; cases hl
   obtain ⟨hb, hG⟩ : Below W.heap.size W w ∧ InsG [] 0 ⟨r, x, y, kk⟩ W listed a w := by
    rcases hI with ⟨_, hb, hG⟩ | ⟨h, _⟩
    ·exact ⟨hb, hG⟩
    ·rw [h19] at h; cases h
   have q5 : a.tmps[5]? = some (.int .i64 (i : Int)) := (hS.keep 5 (of_decide_eq_true (by kernel_rfl))).trans rfl
   go_simp
   exact hK _ _ ⟨(hS.put hn 8 57 _ rfl (by show 57 < 136; omega) (fun u h => by injection h with h; injection h with h; exact h.symm)), .inl ⟨by rw [getD_set hls, if_neg (by omega)]; exact h19, hb, hG.same (by omega) hls (by simp) (by simp) (by simp) (by simp) (by simp)⟩⟩
  ·
   refine wpOp_step (o := { dst := some 58, op := Op.indexAddr 30 (Operand.tmp 56) (Operand.tmp 57), type := 0, pos := "ref.go:225", after := #[{ on := 7, ground := Ground.data }, { on := 8, ground := Ground.data }], guard := none }) rfl ?_
   intro K hK
   have h19 : listed.getD 19 false = false := by
    cases h : listed.getD 19 false with
    | false => rfl
    | true => rw [hcl 19 9 h (of_decide_eq_true (by kernel_rfl))] at hl; cases hl
   obtain ⟨hb, hG⟩ : Below W.heap.size W w ∧ InsG [] 0 ⟨r, x, y, kk⟩ W listed a w := by
    rcases hI with ⟨_, hb, hG⟩ | ⟨h, _⟩
    ·exact ⟨hb, hG⟩
    ·rw [h19] at h; cases h
   have q56 : a.tmps[56]? = some (.slice (some ⟨vb, vo, none⟩) n vc) := hS.val 7 56 _ (hd 7 (of_decide_eq_true (by kernel_rfl))) rfl rfl
   have q57 : a.tmps[57]? = some (.int .i64 (i : Int)) := hS.val 8 57 _ (hd 8 (of_decide_eq_true (by kernel_rfl))) rfl rfl
   go_simp
   exact hK _ _ ⟨(hS.put hn 9 58 _ rfl (by show 58 < 136; omega) (fun u h => by injection h with h; injection h with h; exact h.symm)), .inl ⟨by rw [getD_set hls, if_neg (by omega)]; exact h19, hb, hG.same (by omega) hls (by simp) (by simp) (by simp) (by simp) (by simp)⟩⟩
  ·
   refine wpOp_step (o := { dst := some 59, op := Op.load 45 (Operand.tmp 58), type := 45, pos := "ref.go:225", after := #[{ on := 9, ground := Ground.data }], guard := none }) rfl ?_
   intro K hK
   have h19 : listed.getD 19 false = false := by
    cases h : listed.getD 19 false with
    | false => rfl
    | true => rw [hcl 19 10 h (of_decide_eq_true (by kernel_rfl))] at hl; cases hl
   obtain ⟨hb, hG⟩ : Below W.heap.size W w ∧ InsG [] 0 ⟨r, x, y, kk⟩ W listed a w := by
    rcases hI with ⟨_, hb, hG⟩ | ⟨h, _⟩
    ·exact ⟨hb, hG⟩
    ·rw [h19] at h; cases h
   have q58 : a.tmps[58]? = some (.pointer (some ⟨vb, vo + i * 4, none⟩)) := hS.val 9 58 _ (hd 9 (of_decide_eq_true (by kernel_rfl))) rfl rfl
   obtain ⟨_, m0, m1, m2, m3⟩ := hT.next hb
   go_simp
   exact hK _ _ ⟨(hS.put hn 10 59 _ rfl (by show 59 < 136; omega) (fun u h => by injection h with h; injection h with h; exact h.symm)), .inl ⟨by rw [getD_set hls, if_neg (by omega)]; exact h19, hb, hG.same (by omega) hls (by simp) (by simp) (by simp) (by simp) (by simp)⟩⟩
  ·
   refine wpOp_step (o := { dst := some 60, op := Op.buildSlice 30 1 #[(0, Operand.tmp 59)], type := 30, pos := "ref.go:225", after := #[{ on := 10, ground := Ground.data }], guard := none }) rfl ?_
   intro K hK
   have h19 : listed.getD 19 false = false := by
    cases h : listed.getD 19 false with
    | false => rfl
    | true => rw [hcl 19 11 h (of_decide_eq_true (by kernel_rfl))] at hl; cases hl
   obtain ⟨hb, hG⟩ : Below W.heap.size W w ∧ InsG [] 0 ⟨r, x, y, kk⟩ W listed a w := by
    rcases hI with ⟨_, hb, hG⟩ | ⟨h, _⟩
    ·exact ⟨hb, hG⟩
    ·rw [h19] at h; cases h
   have n12 : listed.getD 12 false = false := by
    cases h : listed.getD 12 false with
    | false => rfl
    | true => rw [hcl 12 11 h (of_decide_eq_true (by kernel_rfl))] at hl; cases hl
   have n17 : listed.getD 17 false = false := by
    cases h : listed.getD 17 false with
    | false => rfl
    | true => rw [hcl 17 12 h (of_decide_eq_true (by kernel_rfl))] at n12; cases n12
   have q59 : a.tmps[59]? = some (seatV r x y kk) := hS.val 10 59 _ (hd 10 (of_decide_eq_true (by kernel_rfl))) rfl rfl
   go_simp
   refine hK _ _ ⟨(hS.put hn 11 60 _ rfl (by show 60 < 136; omega) (fun u h => by injection h with h; cases h)), .inl ⟨by rw [getD_set hls, if_neg (by omega)]; exact h19, hb.alloc hb.size _, ?_⟩⟩
   exact hG.one hls hsz.out n12 n17
  ·
   refine wpOp_step (o := { dst := some 61, op := Op.call { callee := Callee.builtin Builtin.append, args := #[Operand.tmp 54, Operand.tmp 60], argTypes := #[30, 30] }, type := 30, pos := "ref.go:225", after := #[{ on := 5, ground := Ground.data }, { on := 11, ground := Ground.data }, { on := 5, ground := Ground.chain }], guard := none }) rfl ?_
   intro K hK
   have h19 : listed.getD 19 false = false := by
    cases h : listed.getD 19 false with
    | false => rfl
    | true => rw [hcl 19 12 h (of_decide_eq_true (by kernel_rfl))] at hl; cases hl
   obtain ⟨hb, hG⟩ : Below W.heap.size W w ∧ InsG [] 0 ⟨r, x, y, kk⟩ W listed a w := by
    rcases hI with ⟨_, hb, hG⟩ | ⟨h, _⟩
    ·exact ⟨hb, hG⟩
    ·rw [h19] at h; cases h
   have n17 : listed.getD 17 false = false := by
    cases h : listed.getD 17 false with
    | false => rfl
    | true => rw [hcl 17 12 h (of_decide_eq_true (by kernel_rfl))] at hl; cases hl
   obtain ⟨rv, g7, _, _, h5, _, h11⟩ := hG
   obtain ⟨e5, hown⟩ := h5 hl (hd 5 (of_decide_eq_true (by kernel_rfl)))
   obtain ⟨e11, hS7, _⟩ := h11 (hd 11 (of_decide_eq_true (by kernel_rfl))) hl
   refine step_append_own_at rfl _ _ 30 rfl W.heap.size 45 i0 (seatV 0 0 0 0) 4 32 Tryz.underlying30 hi hz0 hz1 hz2 rfl (by omega) _ _ _ (eval_of e5) hown ⟨g7, 0, none⟩ 1 1 (seatC ⟨r, x, y, kk⟩) (eval_of e11) rfl (fun q u hq => by rw [Addr.add_lit, Nat.zero_add]; exact hS7.cell q u (by show (seatC ⟨r, x, y, kk⟩).toArray[q]? = some u; rw [List.getElem?_toArray]; exact hq)) (fun u hu => seat_one [⟨r, x, y, kk⟩] u (by simpa using hu)) (by unfold maxLen; omega) (by omega) hb.size ?_
   intro v2 w2 hown2 hgr hloc
   refine hK _ _ ⟨(hS.put hn 12 61 _ rfl (by show 61 < 136; omega) (fun u h => by injection h with h; cases h)), .inl ⟨by rw [getD_set hls, if_neg (by omega)]; exact h19, hb.grown hgr hb.size (row_high hown), ?_⟩⟩
   exact InsG.put hls hsz.out n17 (hd 5 (of_decide_eq_true (by kernel_rfl))) hown2
  ·
   refine wpOp_step (o := { dst := some 62, op := Op.fieldAddr 33 (Operand.tmp 4) 0, type := 0, pos := "ref.go:225", after := #[], guard := none }) rfl ?_
   intro K hK
   have h19 : listed.getD 19 false = false := by
    cases h : listed.getD 19 false with
    | false => rfl
    | true => rw [hcl 19 13 h (of_decide_eq_true (by kernel_rfl))] at hl; cases hl
   obtain ⟨hb, hG⟩ : Below W.heap.size W w ∧ InsG [] 0 ⟨r, x, y, kk⟩ W listed a w := by
    rcases hI with ⟨_, hb, hG⟩ | ⟨h, _⟩
    ·exact ⟨hb, hG⟩
    ·rw [h19] at h; cases h
   have q4 : a.tmps[4]? = some (.pointer (some ⟨b4, 0, none⟩)) := (hS.keep 4 (of_decide_eq_true (by kernel_rfl))).trans rfl
   go_simp
   exact hK _ _ ⟨(hS.put hn 13 62 _ rfl (by show 62 < 136; omega) (fun u h => by injection h with h; injection h with h; exact h.symm)), .inl ⟨by rw [getD_set hls, if_neg (by omega)]; exact h19, hb, hG.same (by omega) hls (by simp) (by simp) (by simp) (by simp) (by simp)⟩⟩
  ·
   refine wpOp_step (o := { dst := some 63, op := Op.load 30 (Operand.tmp 62), type := 30, pos := "ref.go:225", after := #[{ on := 13, ground := Ground.data }], guard := none }) rfl ?_
   intro K hK
   have h19 : listed.getD 19 false = false := by
    cases h : listed.getD 19 false with
    | false => rfl
    | true => rw [hcl 19 14 h (of_decide_eq_true (by kernel_rfl))] at hl; cases hl
   obtain ⟨hb, hG⟩ : Below W.heap.size W w ∧ InsG [] 0 ⟨r, x, y, kk⟩ W listed a w := by
    rcases hI with ⟨_, hb, hG⟩ | ⟨h, _⟩
    ·exact ⟨hb, hG⟩
    ·rw [h19] at h; cases h
   have q62 : a.tmps[62]? = some (.pointer (some ⟨b4, 0, none⟩)) := hS.val 13 62 _ (hd 13 (of_decide_eq_true (by kernel_rfl))) rfl rfl
   have m0 := (hU.next hb).cell 0 _ rfl
   go_simp
   exact hK _ _ ⟨(hS.put hn 14 63 _ rfl (by show 63 < 136; omega) (fun u h => by injection h with h; injection h with h; exact h.symm)), .inl ⟨by rw [getD_set hls, if_neg (by omega)]; exact h19, hb, hG.same (by omega) hls (by simp) (by simp) (by simp) (by simp) (by simp)⟩⟩
  ·
   refine wpOp_step (o := { dst := some 64, op := Op.move (Operand.tmp 6), type := 3, pos := "ref.go:225", after := #[], guard := none }) rfl ?_
   intro K hK
   have h19 : listed.getD 19 false = false := by
    cases h : listed.getD 19 false with
    | false => rfl
    | true => rw [hcl 19 15 h (of_decide_eq_true (by kernel_rfl))] at hl; cases hl
   obtain ⟨hb, hG⟩ : Below W.heap.size W w ∧ InsG [] 0 ⟨r, x, y, kk⟩ W listed a w := by
    rcases hI with ⟨_, hb, hG⟩ | ⟨h, _⟩
    ·exact ⟨hb, hG⟩
    ·rw [h19] at h; cases h
   have q6 : a.tmps[6]? = some (.int .i64 0) := (hS.keep 6 (of_decide_eq_true (by kernel_rfl))).trans rfl
   go_simp
   exact hK _ _ ⟨(hS.put hn 15 64 _ rfl (by show 64 < 136; omega) (fun u h => by injection h with h; injection h with h; exact h.symm)), .inl ⟨by rw [getD_set hls, if_neg (by omega)]; exact h19, hb, hG.same (by omega) hls (by simp) (by simp) (by simp) (by simp) (by simp)⟩⟩
  ·
   refine wpOp_step (o := { dst := some 65, op := Op.slice 30 (Operand.tmp 63) (some (Operand.tmp 64)) none none, type := 30, pos := "ref.go:225", after := #[{ on := 14, ground := Ground.data }, { on := 15, ground := Ground.data }], guard := none }) rfl ?_
   intro K hK
   have h19 : listed.getD 19 false = false := by
    cases h : listed.getD 19 false with
    | false => rfl
    | true => rw [hcl 19 16 h (of_decide_eq_true (by kernel_rfl))] at hl; cases hl
   obtain ⟨hb, hG⟩ : Below W.heap.size W w ∧ InsG [] 0 ⟨r, x, y, kk⟩ W listed a w := by
    rcases hI with ⟨_, hb, hG⟩ | ⟨h, _⟩
    ·exact ⟨hb, hG⟩
    ·rw [h19] at h; cases h
   have q63 : a.tmps[63]? = some (.slice none 0 0) := hS.val 14 63 _ (hd 14 (of_decide_eq_true (by kernel_rfl))) rfl rfl
   have q64 : a.tmps[64]? = some (.int .i64 0) := hS.val 15 64 _ (hd 15 (of_decide_eq_true (by kernel_rfl))) rfl rfl
   go_simp
   exact hK _ _ ⟨(hS.put hn 16 65 _ rfl (by show 65 < 136; omega) (fun u h => by injection h with h; injection h with h; exact h.symm)), .inl ⟨by rw [getD_set hls, if_neg (by omega)]; exact h19, hb, hG.same (by omega) hls (by simp) (by simp) (by simp) (by simp) (by simp)⟩⟩
  ·
   refine wpOp_step (o := { dst := some 66, op := Op.call { callee := Callee.builtin Builtin.append, args := #[Operand.tmp 61, Operand.tmp 65], argTypes := #[30, 30] }, type := 30, pos := "ref.go:225", after := #[{ on := 12, ground := Ground.data }, { on := 16, ground := Ground.data }, { on := 12, ground := Ground.chain }], guard := none }) rfl ?_
   intro K hK
   have h19 : listed.getD 19 false = false := by
    cases h : listed.getD 19 false with
    | false => rfl
    | true => rw [hcl 19 17 h (of_decide_eq_true (by kernel_rfl))] at hl; cases hl
   obtain ⟨hb, hG⟩ : Below W.heap.size W w ∧ InsG [] 0 ⟨r, x, y, kk⟩ W listed a w := by
    rcases hI with ⟨_, hb, hG⟩ | ⟨h, _⟩
    ·exact ⟨hb, hG⟩
    ·rw [h19] at h; cases h
   obtain ⟨rv, g7, _, h12, _, _, _⟩ := hG
   obtain ⟨e12, hown⟩ := h12 hl (hd 12 (of_decide_eq_true (by kernel_rfl)))
   obtain ⟨ra, rc, rfl⟩ := row_slice hown
   have q65 : a.tmps[65]? = some (.slice none 0 0) := hS.val 16 65 _ (hd 16 (of_decide_eq_true (by kernel_rfl))) rfl rfl
   refine step_append_no rfl 30 (by decide) rfl _ _ rfl _ _ _ (eval_of e12) (row_cap hown) (eval_of q65) ?_
   refine hK _ _ ⟨(hS.put hn 17 66 _ rfl (by show 66 < 136; omega) (fun u h => by injection h with h; cases h)), .inl ⟨by rw [getD_set hls, if_neg (by omega)]; exact h19, hb, ?_⟩⟩
   exact InsG.all hls hsz.out (hd 12 (of_decide_eq_true (by kernel_rfl))) (hcl 12 5 (hd 12 (of_decide_eq_true (by kernel_rfl))) (of_decide_eq_true (by kernel_rfl))) (by simpa using hown)
  ·
   refine wpOp_step (o := { dst := some 67, op := Op.fieldAddr 33 (Operand.tmp 4) 0, type := 0, pos := "ref.go:225", after := #[{ on := 0, ground := Ground.phase }, { on := 1, ground := Ground.phase }, { on := 2, ground := Ground.phase }, { on := 3, ground := Ground.phase }, { on := 4, ground := Ground.phase }, { on := 5, ground := Ground.phase }, { on := 6, ground := Ground.phase }, { on := 7, ground := Ground.phase }, { on := 8, ground := Ground.phase }, { on := 9, ground := Ground.phase }, { on := 10, ground := Ground.phase }, { on := 11, ground := Ground.phase }, { on := 12, ground := Ground.phase }, { on := 13, ground := Ground.phase }, { on := 14, ground := Ground.phase }, { on := 15, ground := Ground.phase }, { on := 16, ground := Ground.phase }, { on := 17, ground := Ground.phase }], guard := none }) rfl ?_
   intro K hK
   have h19 : listed.getD 19 false = false := by
    cases h : listed.getD 19 false with
    | false => rfl
    | true => rw [hcl 19 18 h (of_decide_eq_true (by kernel_rfl))] at hl; cases hl
   obtain ⟨hb, hG⟩ : Below W.heap.size W w ∧ InsG [] 0 ⟨r, x, y, kk⟩ W listed a w := by
    rcases hI with ⟨_, hb, hG⟩ | ⟨h, _⟩
    ·exact ⟨hb, hG⟩
    ·rw [h19] at h; cases h
   have q4 : a.tmps[4]? = some (.pointer (some ⟨b4, 0, none⟩)) := (hS.keep 4 (of_decide_eq_true (by kernel_rfl))).trans rfl
   go_simp
   exact hK _ _ ⟨(hS.put hn 18 67 _ rfl (by show 67 < 136; omega) (fun u h => by injection h with h; injection h with h; exact h.symm)), .inl ⟨by rw [getD_set hls, if_neg (by omega)]; exact h19, hb, hG.same (by omega) hls (by simp) (by simp) (by simp) (by simp) (by simp)⟩⟩
  ·
   refine wpOp_step (o := { dst := none, op := Op.store 30 (Operand.tmp 67) (Operand.tmp 66), type := 0, pos := "ref.go:225", after := #[{ on := 18, ground := Ground.data }, { on := 17, ground := Ground.data }, { on := 17, ground := Ground.chain }, { on := 0, ground := Ground.phase }, { on := 1, ground := Ground.phase }, { on := 2, ground := Ground.phase }, { on := 3, ground := Ground.phase }, { on := 4, ground := Ground.phase }, { on := 5, ground := Ground.phase }, { on := 6, ground := Ground.phase }, { on := 7, ground := Ground.phase }, { on := 8, ground := Ground.phase }, { on := 9, ground := Ground.phase }, { on := 10, ground := Ground.phase }, { on := 11, ground := Ground.phase }, { on := 12, ground := Ground.phase }, { on := 13, ground := Ground.phase }, { on := 14, ground := Ground.phase }, { on := 15, ground := Ground.phase }, { on := 16, ground := Ground.phase }, { on := 17, ground := Ground.phase }], guard := none }) rfl ?_
   intro K hK
   obtain ⟨hb, hG⟩ : Below W.heap.size W w ∧ InsG [] 0 ⟨r, x, y, kk⟩ W listed a w := by
    rcases hI with ⟨_, hb, hG⟩ | ⟨h, _⟩
    ·exact ⟨hb, hG⟩
    ·rw [hl] at h; cases h
   obtain ⟨rv, g7, h17, _, _, _, _⟩ := hG
   obtain ⟨e17, hown⟩ := h17 (hd 17 (of_decide_eq_true (by kernel_rfl)))
   obtain ⟨a13, c13, rfl⟩ := row_slice hown
   have q67 : a.tmps[67]? = some (.pointer (some ⟨b4, 0, none⟩)) := hS.val 18 67 _ (hd 18 (of_decide_eq_true (by kernel_rfl))) rfl rfl
   have hx := hU.next hb
   have m0 := hx.cell 0 _ rfl
   have mf := hx.frozen 0
   have ml := hx.lt
   go_simp
   exact hK _ _ ⟨hS.skip 19 rfl, .inr ⟨by rw [getD_set hls, if_pos rfl], w, a13, c13, rfl, hb, e17, hown⟩⟩
 ·intro listed a w hall ⟨hS, hI⟩
  rcases hI with ⟨h, _⟩ | ⟨_, w1, a13, c13, rfl, hb, e17, hown⟩
  ·rw [hall 19 (by show 19 < 20; omega)] at h; cases h
  ·have hsz : a.tmps.size = 136 := hS.size
   obtain ⟨x0, hx0⟩ := slot_of (a := a) (k := 49) (by rw [hsz]; omega)
   obtain ⟨x5, hx5⟩ := slot_of (a := a) (k := 54) (by rw [hsz]; omega)
   obtain ⟨x11, hx11⟩ := slot_of (a := a) (k := 60) (by rw [hsz]; omega)
   obtain ⟨x12, hx12⟩ := slot_of (a := a) (k := 61) (by rw [hsz]; omega)
   have he := hS.frame [(49, x0), (50, .pointer (some ⟨b4, 0, none⟩)), (51, .slice none 0 0), (52, .int .i64 0), (53, .slice none 0 0), (54, x5), (55, .pointer (some ⟨b1, 0, none⟩)), (56, .slice (some ⟨vb, vo, none⟩) n vc), (57, .int .i64 (i : Int)), (58, .pointer (some ⟨vb, vo + i * 4, none⟩)), (59, seatV r x y kk), (60, x11), (61, x12), (62, .pointer (some ⟨b4, 0, none⟩)), (63, .slice none 0 0), (64, .int .i64 0), (65, .slice none 0 0), (66, .slice a13 1 c13), (67, .pointer (some ⟨b4, 0, none⟩))] rfl (by show List.Pairwise _ [49, 50, 51, 52, 53, 54, 55, 56, 57, 58, 59, 60, 61, 62, 63, 64, 65, 66, 67]; decide) (by kernel_rfl) (List.forall_mem_cons.2 ⟨hx0, List.forall_mem_cons.2 ⟨hS.val 1 50 _ (hall 1 (by show 1 < 20; omega)) rfl rfl, List.forall_mem_cons.2 ⟨hS.val 2 51 _ (hall 2 (by show 2 < 20; omega)) rfl rfl, List.forall_mem_cons.2 ⟨hS.val 3 52 _ (hall 3 (by show 3 < 20; omega)) rfl rfl, List.forall_mem_cons.2 ⟨hS.val 4 53 _ (hall 4 (by show 4 < 20; omega)) rfl rfl, List.forall_mem_cons.2 ⟨hx5, List.forall_mem_cons.2 ⟨hS.val 6 55 _ (hall 6 (by show 6 < 20; omega)) rfl rfl, List.forall_mem_cons.2 ⟨hS.val 7 56 _ (hall 7 (by show 7 < 20; omega)) rfl rfl, List.forall_mem_cons.2 ⟨hS.val 8 57 _ (hall 8 (by show 8 < 20; omega)) rfl rfl, List.forall_mem_cons.2 ⟨hS.val 9 58 _ (hall 9 (by show 9 < 20; omega)) rfl rfl, List.forall_mem_cons.2 ⟨hS.val 10 59 _ (hall 10 (by show 10 < 20; omega)) rfl rfl, List.forall_mem_cons.2 ⟨hx11, List.forall_mem_cons.2 ⟨hx12, List.forall_mem_cons.2 ⟨hS.val 13 62 _ (hall 13 (by show 13 < 20; omega)) rfl rfl, List.forall_mem_cons.2 ⟨hS.val 14 63 _ (hall 14 (by show 14 < 20; omega)) rfl rfl, List.forall_mem_cons.2 ⟨hS.val 15 64 _ (hall 15 (by show 15 < 20; omega)) rfl rfl, List.forall_mem_cons.2 ⟨hS.val 16 65 _ (hall 16 (by show 16 < 20; omega)) rfl rfl, List.forall_mem_cons.2 ⟨e17, List.forall_mem_cons.2 ⟨hS.val 18 67 _ (hall 18 (by show 18 < 20; omega)) rfl rfl, fun p hp => by cases hp⟩⟩⟩⟩⟩⟩⟩⟩⟩⟩⟩⟩⟩⟩⟩⟩⟩⟩⟩)
   have e2 : ({ tmps := putAll (A0::.pointer (some ⟨b1, 0, none⟩)::A2::A3::.pointer (some ⟨b4, 0, none⟩)::.int .i64 (i : Int)::.int .i64 0::A7::A8::A9::B0::B1::B2::B3::B4::B5::B6::B7::B8::B9::C0::C1::C2::C3::C4::C5::C6::C7::C8::C9::D0::D1::D2::D3::D4::D5::D6::D7::D8::D9::E0::E1::E2::E3::E4::E5::E6::E7::E8::E9::F0::F1::F2::F3::F4::F5::F6::F7::F8::F9::G0::G1::G2::G3::G4::G5::G6::G7::G8::G9::H0::H1::H2::H3::H4::H5::H6::H7::H8::H9::I0::I1::I2::I3::I4::I5::I6::I7::I8::I9::J0::J1::J2::J3::J4::J5::J6::J7::J8::J9::K0::K1::K2::K3::K4::K5::K6::K7::K8::K9::L0::L1::L2::L3::L4::L5::L6::L7::L8::L9::M0::M1::M2::M3::M4::M5::M6::M7::M8::M9::N0::N1::N2::N3::N4::N5::[]).toArray [(49, x0), (50, .pointer (some ⟨b4, 0, none⟩)), (51, .slice none 0 0), (52, .int .i64 0), (53, .slice none 0 0), (54, x5), (55, .pointer (some ⟨b1, 0, none⟩)), (56, .slice (some ⟨vb, vo, none⟩) n vc), (57, .int .i64 (i : Int)), (58, .pointer (some ⟨vb, vo + i * 4, none⟩)), (59, seatV r x y kk), (60, x11), (61, x12), (62, .pointer (some ⟨b4, 0, none⟩)), (63, .slice none 0 0), (64, .int .i64 0), (65, .slice none 0 0), (66, .slice a13 1 c13), (67, .pointer (some ⟨b4, 0, none⟩))], defers := [] } : Act) = { tmps := (A0::.pointer (some ⟨b1, 0, none⟩)::A2::A3::.pointer (some ⟨b4, 0, none⟩)::.int .i64 (i : Int)::.int .i64 0::A7::A8::A9::B0::B1::B2::B3::B4::B5::B6::B7::B8::B9::C0::C1::C2::C3::C4::C5::C6::C7::C8::C9::D0::D1::D2::D3::D4::D5::D6::D7::D8::D9::E0::E1::E2::E3::E4::E5::E6::E7::E8::x0::.pointer (some ⟨b4, 0, none⟩)::.slice none 0 0::.int .i64 0::.slice none 0 0::x5::.pointer (some ⟨b1, 0, none⟩)::.slice (some ⟨vb, vo, none⟩) n vc::.int .i64 (i : Int)::.pointer (some ⟨vb, vo + i * 4, none⟩)::seatV r x y kk::x11::x12::.pointer (some ⟨b4, 0, none⟩)::.slice none 0 0::.int .i64 0::.slice none 0 0::.slice a13 1 c13::.pointer (some ⟨b4, 0, none⟩)::G8::G9::H0::H1::H2::H3::H4::H5::H6::H7::H8::H9::I0::I1::I2::I3::I4::I5::I6::I7::I8::I9::J0::J1::J2::J3::J4::J5::J6::J7::J8::J9::K0::K1::K2::K3::K4::K5::K6::K7::K8::K9::L0::L1::L2::L3::L4::L5::L6::L7::L8::L9::M0::M1::M2::M3::M4::M5::M6::M7::M8::M9::N0::N1::N2::N3::N4::N5::[]).toArray, defers := [] } := by kernel_rfl
   rw [hszd] at hown
   rw [he]
   show Q .normal { tmps := putAll (A0::.pointer (some ⟨b1, 0, none⟩)::A2::A3::.pointer (some ⟨b4, 0, none⟩)::.int .i64 (i : Int)::.int .i64 0::A7::A8::A9::B0::B1::B2::B3::B4::B5::B6::B7::B8::B9::C0::C1::C2::C3::C4::C5::C6::C7::C8::C9::D0::D1::D2::D3::D4::D5::D6::D7::D8::D9::E0::E1::E2::E3::E4::E5::E6::E7::E8::E9::F0::F1::F2::F3::F4::F5::F6::F7::F8::F9::G0::G1::G2::G3::G4::G5::G6::G7::G8::G9::H0::H1::H2::H3::H4::H5::H6::H7::H8::H9::I0::I1::I2::I3::I4::I5::I6::I7::I8::I9::J0::J1::J2::J3::J4::J5::J6::J7::J8::J9::K0::K1::K2::K3::K4::K5::K6::K7::K8::K9::L0::L1::L2::L3::L4::L5::L6::L7::L8::L9::M0::M1::M2::M3::M4::M5::M6::M7::M8::M9::N0::N1::N2::N3::N4::N5::[]).toArray [(49, x0), (50, .pointer (some ⟨b4, 0, none⟩)), (51, .slice none 0 0), (52, .int .i64 0), (53, .slice none 0 0), (54, x5), (55, .pointer (some ⟨b1, 0, none⟩)), (56, .slice (some ⟨vb, vo, none⟩) n vc), (57, .int .i64 (i : Int)), (58, .pointer (some ⟨vb, vo + i * 4, none⟩)), (59, seatV r x y kk), (60, x11), (61, x12), (62, .pointer (some ⟨b4, 0, none⟩)), (63, .slice none 0 0), (64, .int .i64 0), (65, .slice none 0 0), (66, .slice a13 1 c13), (67, .pointer (some ⟨b4, 0, none⟩))], defers := [] } _
   rw [e2]
   exact hQ w1 x0 x5 x11 x12 a13 c13 (hbd.trans (hszd ▸ hb)) hown
def opsInss : Array Oper := #[{ dst := some 49, op := Op.buildSlice 30 0 #[], type := 30, pos := "ref.go:225", after := #[], guard := none }, { dst := some 50, op := Op.fieldAddr 33 (Operand.tmp 4) 0, type := 0, pos := "ref.go:225", after := #[], guard := none }, { dst := some 51, op := Op.load 30 (Operand.tmp 50), type := 30, pos := "ref.go:225", after := #[{ on := 1, ground := Ground.data }], guard := none }, { dst := some 52, op := Op.move (Operand.tmp 6), type := 3, pos := "ref.go:225", after := #[], guard := none }, { dst := some 53, op := Op.slice 30 (Operand.tmp 51) none (some (Operand.tmp 52)) none, type := 30, pos := "ref.go:225", after := #[{ on := 2, ground := Ground.data }, { on := 3, ground := Ground.data }], guard := none }, { dst := some 54, op := Op.call { callee := Callee.builtin Builtin.append, args := #[Operand.tmp 49, Operand.tmp 53], argTypes := #[30, 30] }, type := 30, pos := "ref.go:225", after := #[{ on := 0, ground := Ground.data }, { on := 4, ground := Ground.data }], guard := none }, { dst := some 55, op := Op.fieldAddr 33 (Operand.tmp 1) 0, type := 0, pos := "ref.go:225", after := #[], guard := none }, { dst := some 56, op := Op.load 30 (Operand.tmp 55), type := 30, pos := "ref.go:225", after := #[{ on := 6, ground := Ground.data }], guard := none }, { dst := some 57, op := Op.move (Operand.tmp 5), type := 3, pos := "ref.go:225", after := #[], guard := none }, { dst := some 58, op := Op.indexAddr 30 (Operand.tmp 56) (Operand.tmp 57), type := 0, pos := "ref.go:225", after := #[{ on := 7, ground := Ground.data }, { on := 8, ground := Ground.data }], guard := none }, { dst := some 59, op := Op.load 45 (Operand.tmp 58), type := 45, pos := "ref.go:225", after := #[{ on := 9, ground := Ground.data }], guard := none }, { dst := some 60, op := Op.buildSlice 30 1 #[(0, Operand.tmp 59)], type := 30, pos := "ref.go:225", after := #[{ on := 10, ground := Ground.data }], guard := none }, { dst := some 61, op := Op.call { callee := Callee.builtin Builtin.append, args := #[Operand.tmp 54, Operand.tmp 60], argTypes := #[30, 30] }, type := 30, pos := "ref.go:225", after := #[{ on := 5, ground := Ground.data }, { on := 11, ground := Ground.data }, { on := 5, ground := Ground.chain }], guard := none }, { dst := some 62, op := Op.fieldAddr 33 (Operand.tmp 4) 0, type := 0, pos := "ref.go:225", after := #[], guard := none }, { dst := some 63, op := Op.load 30 (Operand.tmp 62), type := 30, pos := "ref.go:225", after := #[{ on := 13, ground := Ground.data }], guard := none }, { dst := some 64, op := Op.move (Operand.tmp 6), type := 3, pos := "ref.go:225", after := #[], guard := none }, { dst := some 65, op := Op.slice 30 (Operand.tmp 63) (some (Operand.tmp 64)) none none, type := 30, pos := "ref.go:225", after := #[{ on := 14, ground := Ground.data }, { on := 15, ground := Ground.data }], guard := none }, { dst := some 66, op := Op.call { callee := Callee.builtin Builtin.append, args := #[Operand.tmp 61, Operand.tmp 65], argTypes := #[30, 30] }, type := 30, pos := "ref.go:225", after := #[{ on := 12, ground := Ground.data }, { on := 16, ground := Ground.data }, { on := 12, ground := Ground.chain }], guard := none }, { dst := some 67, op := Op.fieldAddr 33 (Operand.tmp 4) 0, type := 0, pos := "ref.go:225", after := #[{ on := 0, ground := Ground.phase }, { on := 1, ground := Ground.phase }, { on := 2, ground := Ground.phase }, { on := 3, ground := Ground.phase }, { on := 4, ground := Ground.phase }, { on := 5, ground := Ground.phase }, { on := 6, ground := Ground.phase }, { on := 7, ground := Ground.phase }, { on := 8, ground := Ground.phase }, { on := 9, ground := Ground.phase }, { on := 10, ground := Ground.phase }, { on := 11, ground := Ground.phase }, { on := 12, ground := Ground.phase }, { on := 13, ground := Ground.phase }, { on := 14, ground := Ground.phase }, { on := 15, ground := Ground.phase }, { on := 16, ground := Ground.phase }, { on := 17, ground := Ground.phase }], guard := none }, { dst := none, op := Op.store 30 (Operand.tmp 67) (Operand.tmp 66), type := 0, pos := "ref.go:225", after := #[{ on := 18, ground := Ground.data }, { on := 17, ground := Ground.data }, { on := 17, ground := Ground.chain }, { on := 0, ground := Ground.phase }, { on := 1, ground := Ground.phase }, { on := 2, ground := Ground.phase }, { on := 3, ground := Ground.phase }, { on := 4, ground := Ground.phase }, { on := 5, ground := Ground.phase }, { on := 6, ground := Ground.phase }, { on := 7, ground := Ground.phase }, { on := 8, ground := Ground.phase }, { on := 9, ground := Ground.phase }, { on := 10, ground := Ground.phase }, { on := 11, ground := Ground.phase }, { on := 12, ground := Ground.phase }, { on := 13, ground := Ground.phase }, { on := 14, ground := Ground.phase }, { on := 15, ground := Ground.phase }, { on := 16, ground := Ground.phase }, { on := 17, ground := Ground.phase }], guard := none }]
def dstInss : List (Option Nat) := [some 49, some 50, some 51, some 52, some 53, some 54, some 55, some 56, some 57, some 58, some 59, some 60, some 61, some 62, some 63, some 64, some 65, some 66, some 67, none]
theorem dstInss_apart : dstInss.Pairwise (fun x y => x = none ∨ x ≠ y) := by decide
set_option maxHeartbeats 16000000 in
theorem region12_8s (Q : Exit → Act → World → Prop) (l : List Seat) (b off c j : Nat) (hj : j ≤ l.length) (hlc : l.length ≤ c) (hl30 : l.length ≤ 5000) (hcm : c ≤ 9223372036854775807) (A : Addr) (hA : (if c = j then some (⟨b, off, none⟩ : Addr) else some ⟨b, off + j * 4, none⟩) = some A) (i n vb vo vc : Nat) (hin : i < n) (r x y kk : Int) (v1 v2 v3 v4 w1 w2' w3 w4 : Value) (b1 b4 : Nat) (W0 : World)
  (hV0 : Box W0 b1 33 #[.slice (some ⟨vb, vo, none⟩) n vc, v1, v2, v3, v4]) (hT0 : SeatAt W0 vb (vo + i * 4) r x y kk) (hU0 : Box W0 b4 33 #[.slice (some ⟨b, off, none⟩) l.length c, w1, w2', w3, w4]) (hC0 : Cells 4 seatC W0 b off l)
  (A0 A2 A3 A7 A8 A9 B0 B1 B2 B3 B4 B5 B6 B7 B8 B9 C0 C1 C2 C3 C4 C5 C6 C7 C8 C9 D0 D1 D2 D3 D4 D5 D6 D7 D8 D9 E0 E1 E2 E3 E4 E5 E6 E7 E8 E9 F0 F1 F2 F3 F4 F5 F6 F7 F8 F9 G0 G1 G2 G3 G4 G5 G6 G7 G8 G9 H0 H1 H2 H3 H4 H5 H6 H7 H8 H9 I0 I1 I2 I3 I4 I5 I6 I7 I8 I9 J0 J1 J2 J3 J4 J5 J6 J7 J8 J9 K0 K1 K2 K3 K4 K5 K6 K7 K8 K9 L0 L1 L2 L3 L4 L5 L6 L7 L8 L9 M0 M1 M2 M3 M4 M5 M6 M7 M8 M9 N0 N1 N2 N3 N4 N5 : Value)
  (hQ : ∀ W' x0 x5 x11 x12 a13 c13, Below W0.heap.size W0 W' → W'.ownsRow W0.heap.size 45 4 (.slice a13 (l.length + 1) c13) (l.length + 1) ((l.take j).flatMap seatC ++ seatC ⟨r, x, y, kk⟩ ++ (l.drop j).flatMap seatC) → Q .normal { tmps := (A0::.pointer (some ⟨b1, 0, none⟩)::A2::A3::.pointer (some ⟨b4, 0, none⟩)::.int .i64 (i : Int)::.int .i64 (j : Int)::A7::A8::A9::B0::B1::B2::B3::B4::B5::B6::B7::B8::B9::C0::C1::C2::C3::C4::C5::C6::C7::C8::C9::D0::D1::D2::D3::D4::D5::D6::D7::D8::D9::E0::E1::E2::E3::E4::E5::E6::E7::E8::x0::.pointer (some ⟨b4, 0, none⟩)::.slice (some ⟨b, off, none⟩) l.length c::.int .i64 (j : Int)::.slice (some ⟨b, off, none⟩) j c::x5::.pointer (some ⟨b1, 0, none⟩)::.slice (some ⟨vb, vo, none⟩) n vc::.int .i64 (i : Int)::.pointer (some ⟨vb, vo + i * 4, none⟩)::seatV r x y kk::x11::x12::.pointer (some ⟨b4, 0, none⟩)::.slice (some ⟨b, off, none⟩) l.length c::.int .i64 (j : Int)::.slice (some A) (l.length - j) (c - j)::.slice a13 (l.length + 1) c13::.pointer (some ⟨b4, 0, none⟩)::G8::G9::H0::H1::H2::H3::H4::H5::H6::H7::H8::H9::I0::I1::I2::I3::I4::I5::I6::I7::I8::I9::J0::J1::J2::J3::J4::J5::J6::J7::J8::J9::K0::K1::K2::K3::K4::K5::K6::K7::K8::K9::L0::L1::L2::L3::L4::L5::L6::L7::L8::L9::M0::M1::M2::M3::M4::M5::M6::M7::M8::M9::N0::N1::N2::N3::N4::N5::[]).toArray, defers := [] } (W'.setCell ⟨b4, 0, none⟩ (.slice a13 (l.length + 1) c13))) :
  (Code.region 8 #[{ dst := some 49, op := Op.buildSlice 30 0 #[], type := 30, pos := "ref.go:225", after := #[], guard := none }, { dst := some 50, op := Op.fieldAddr 33 (Operand.tmp 4) 0, type := 0, pos := "ref.go:225", after := #[], guard := none }, { dst := some 51, op := Op.load 30 (Operand.tmp 50), type := 30, pos := "ref.go:225", after := #[{ on := 1, ground := Ground.data }], guard := none }, { dst := some 52, op := Op.move (Operand.tmp 6), type := 3, pos := "ref.go:225", after := #[], guard := none }, { dst := some 53, op := Op.slice 30 (Operand.tmp 51) none (some (Operand.tmp 52)) none, type := 30, pos := "ref.go:225", after := #[{ on := 2, ground := Ground.data }, { on := 3, ground := Ground.data }], guard := none }, { dst := some 54, op := Op.call { callee := Callee.builtin Builtin.append, args := #[Operand.tmp 49, Operand.tmp 53], argTypes := #[30, 30] }, type := 30, pos := "ref.go:225", after := #[{ on := 0, ground := Ground.data }, { on := 4, ground := Ground.data }], guard := none }, { dst := some 55, op := Op.fieldAddr 33 (Operand.tmp 1) 0, type := 0, pos := "ref.go:225", after := #[], guard := none }, { dst := some 56, op := Op.load 30 (Operand.tmp 55), type := 30, pos := "ref.go:225", after := #[{ on := 6, ground := Ground.data }], guard := none }, { dst := some 57, op := Op.move (Operand.tmp 5), type := 3, pos := "ref.go:225", after := #[], guard := none }, { dst := some 58, op := Op.indexAddr 30 (Operand.tmp 56) (Operand.tmp 57), type := 0, pos := "ref.go:225", after := #[{ on := 7, ground := Ground.data }, { on := 8, ground := Ground.data }], guard := none }, { dst := some 59, op := Op.load 45 (Operand.tmp 58), type := 45, pos := "ref.go:225", after := #[{ on := 9, ground := Ground.data }], guard := none }, { dst := some 60, op := Op.buildSlice 30 1 #[(0, Operand.tmp 59)], type := 30, pos := "ref.go:225", after := #[{ on := 10, ground := Ground.data }], guard := none }, { dst := some 61, op := Op.call { callee := Callee.builtin Builtin.append, args := #[Operand.tmp 54, Operand.tmp 60], argTypes := #[30, 30] }, type := 30, pos := "ref.go:225", after := #[{ on := 5, ground := Ground.data }, { on := 11, ground := Ground.data }, { on := 5, ground := Ground.chain }], guard := none }, { dst := some 62, op := Op.fieldAddr 33 (Operand.tmp 4) 0, type := 0, pos := "ref.go:225", after := #[], guard := none }, { dst := some 63, op := Op.load 30 (Operand.tmp 62), type := 30, pos := "ref.go:225", after := #[{ on := 13, ground := Ground.data }], guard := none }, { dst := some 64, op := Op.move (Operand.tmp 6), type := 3, pos := "ref.go:225", after := #[], guard := none }, { dst := some 65, op := Op.slice 30 (Operand.tmp 63) (some (Operand.tmp 64)) none none, type := 30, pos := "ref.go:225", after := #[{ on := 14, ground := Ground.data }, { on := 15, ground := Ground.data }], guard := none }, { dst := some 66, op := Op.call { callee := Callee.builtin Builtin.append, args := #[Operand.tmp 61, Operand.tmp 65], argTypes := #[30, 30] }, type := 30, pos := "ref.go:225", after := #[{ on := 12, ground := Ground.data }, { on := 16, ground := Ground.data }, { on := 12, ground := Ground.chain }], guard := none }, { dst := some 67, op := Op.fieldAddr 33 (Operand.tmp 4) 0, type := 0, pos := "ref.go:225", after := #[{ on := 0, ground := Ground.phase }, { on := 1, ground := Ground.phase }, { on := 2, ground := Ground.phase }, { on := 3, ground := Ground.phase }, { on := 4, ground := Ground.phase }, { on := 5, ground := Ground.phase }, { on := 6, ground := Ground.phase }, { on := 7, ground := Ground.phase }, { on := 8, ground := Ground.phase }, { on := 9, ground := Ground.phase }, { on := 10, ground := Ground.phase }, { on := 11, ground := Ground.phase }, { on := 12, ground := Ground.phase }, { on := 13, ground := Ground.phase }, { on := 14, ground := Ground.phase }, { on := 15, ground := Ground.phase }, { on := 16, ground := Ground.phase }, { on := 17, ground := Ground.phase }], guard := none }, { dst := none, op := Op.store 30 (Operand.tmp 67) (Operand.tmp 66), type := 0, pos := "ref.go:225", after := #[{ on := 18, ground := Ground.data }, { on := 17, ground := Ground.data }, { on := 17, ground := Ground.chain }, { on := 0, ground := Ground.phase }, { on := 1, ground := Ground.phase }, { on := 2, ground := Ground.phase }, { on := 3, ground := Ground.phase }, { on := 4, ground := Ground.phase }, { on := 5, ground := Ground.phase }, { on := 6, ground := Ground.phase }, { on := 7, ground := Ground.phase }, { on := 8, ground := Ground.phase }, { on := 9, ground := Ground.phase }, { on := 10, ground := Ground.phase }, { on := 11, ground := Ground.phase }, { on := 12, ground := Ground.phase }, { on := 13, ground := Ground.phase }, { on := 14, ground := Ground.phase }, { on := 15, ground := Ground.phase }, { on := 16, ground := Ground.phase }, { on := 17, ground := Ground.phase }], guard := none }] true).wp Tryz.prog Q { tmps := (A0::.pointer (some ⟨b1, 0, none⟩)::A2::A3::.pointer (some ⟨b4, 0, none⟩)::.int .i64 (i : Int)::.int .i64 (j : Int)::A7::A8::A9::B0::B1::B2::B3::B4::B5::B6::B7::B8::B9::C0::C1::C2::C3::C4::C5::C6::C7::C8::C9::D0::D1::D2::D3::D4::D5::D6::D7::D8::D9::E0::E1::E2::E3::E4::E5::E6::E7::E8::E9::F0::F1::F2::F3::F4::F5::F6::F7::F8::F9::G0::G1::G2::G3::G4::G5::G6::G7::G8::G9::H0::H1::H2::H3::H4::H5::H6::H7::H8::H9::I0::I1::I2::I3::I4::I5::I6::I7::I8::I9::J0::J1::J2::J3::J4::J5::J6::J7::J8::J9::K0::K1::K2::K3::K4::K5::K6::K7::K8::K9::L0::L1::L2::L3::L4::L5::L6::L7::L8::L9::M0::M1::M2::M3::M4::M5::M6::M7::M8::M9::N0::N1::N2::N3::N4::N5::[]).toArray, defers := [] } W0 := by
 obtain ⟨i0, hi, hz0, hz1, hz2⟩ := info34
 obtain ⟨W, hWd⟩ : ∃ W, W = W0.drew := ⟨_, rfl⟩
 have hszd : W.heap.size = W0.heap.size := by rw [hWd]; rfl
 have hbd : Below W0.heap.size W0 W := by rw [hWd]; exact (Below.refl _ W0).drew
 have hV := hV0.next hbd
 have hT := hT0.next hbd
 have hU := hU0.next hbd
 have hiz : (i : Int) < (n : Int) := by omega
 have hC := hC0.next hbd
 have hjz : (j : Int) ≤ (l.length : Int) := by omega
 have hjc : (j : Int) ≤ (c : Int) := by omega
 have hA2 : ∀ W', Below W.heap.size W W' → ∀ q u, ((l.drop j).flatMap seatC)[q]? = some u → W'.cell? (A.add q) = some u := by
  intro W' hb q u hq
  by_cases hcj : c = j
  ·have hd : l.drop j = [] := List.drop_of_length_le (by omega)
   rw [hd] at hq; simp at hq
  ·rw [if_neg hcj] at hA
   injection hA with hA
   subst hA
   rw [Addr.add_lit]
   have := (hC.next hb).flat_dropG seatC_len (by omega) hj q u hq
   simpa using this
 have hn := dstInss_apart
 show (Code.region 8 opsInss true).wp Tryz.prog Q _ W0
 refine wp_region_inv (by kernel_rfl) (fun listed a w => Slots { tmps := (A0::.pointer (some ⟨b1, 0, none⟩)::A2::A3::.pointer (some ⟨b4, 0, none⟩)::.int .i64 (i : Int)::.int .i64 (j : Int)::A7::A8::A9::B0::B1::B2::B3::B4::B5::B6::B7::B8::B9::C0::C1::C2::C3::C4::C5::C6::C7::C8::C9::D0::D1::D2::D3::D4::D5::D6::D7::D8::D9::E0::E1::E2::E3::E4::E5::E6::E7::E8::E9::F0::F1::F2::F3::F4::F5::F6::F7::F8::F9::G0::G1::G2::G3::G4::G5::G6::G7::G8::G9::H0::H1::H2::H3::H4::H5::H6::H7::H8::H9::I0::I1::I2::I3::I4::I5::I6::I7::I8::I9::J0::J1::J2::J3::J4::J5::J6::J7::J8::J9::K0::K1::K2::K3::K4::K5::K6::K7::K8::K9::L0::L1::L2::L3::L4::L5::L6::L7::L8::L9::M0::M1::M2::M3::M4::M5::M6::M7::M8::M9::N0::N1::N2::N3::N4::N5::[]).toArray, defers := [] } dstInss [none, some (.pointer (some ⟨b4, 0, none⟩)), some (.slice (some ⟨b, off, none⟩) l.length c), some (.int .i64 (j : Int)), some (.slice (some ⟨b, off, none⟩) j c), none, some (.pointer (some ⟨b1, 0, none⟩)), some (.slice (some ⟨vb, vo, none⟩) n vc), some (.int .i64 (i : Int)), some (.pointer (some ⟨vb, vo + i * 4, none⟩)), some (seatV r x y kk), none, none, some (.pointer (some ⟨b4, 0, none⟩)), some (.slice (some ⟨b, off, none⟩) l.length c), some (.int .i64 (j : Int)), some (.slice (some A) (l.length - j) (c - j)), none, some (.pointer (some ⟨b4, 0, none⟩)), none] listed a ∧ ((listed.getD 19 false = false ∧ Below W.heap.size W w ∧ InsG l j ⟨r, x, y, kk⟩ W listed a w) ∨ (listed.getD 19 false = true ∧ ∃ w1 a13 c13, w = w1.setCell ⟨b4, 0, none⟩ (.slice a13 (l.length + 1) c13) ∧ Below W.heap.size W w1 ∧ a.tmps[66]? = some (.slice a13 (l.length + 1) c13) ∧ w1.ownsRow W.heap.size 45 4 (.slice a13 (l.length + 1) c13) (l.length + 1) ((l.take j).flatMap seatC ++ seatC ⟨r, x, y, kk⟩ ++ (l.drop j).flatMap seatC)))) (by kernel_rfl) ?_ ?_ ?_
 ·refine ⟨Slots.start _ _ _ _, .inl ⟨start_false _ _, by rw [hWd]; exact Below.refl _ _, .slice none 0 0, 0, ?_, ?_, ?_, ?_, ?_⟩⟩
  all_goals first | (intro _ h; rw [start_false] at h; cases h; done) | (intro h; rw [start_false] at h; cases h; done) | (trace_state; skip)
 ·intro listed a w i' hsl hilt hl hd hcl ⟨hS, hI⟩
  have hsz : Hid (a.tmps.size = 136) := hS.size
  have hls : i' < listed.size := by rw [hsl]; exact hilt
  have hcase : i' = 0 ∨ i' = 1 ∨ i' = 2 ∨ i' = 3 ∨ i' = 4 ∨ i' = 5 ∨ i' = 6 ∨ i' = 7 ∨ i' = 8 ∨ i' = 9 ∨ i' = 10 ∨ i' = 11 ∨ i' = 12 ∨ i' = 13 ∨ i' = 14 ∨ i' = 15 ∨ i' = 16 ∨ i' = 17 ∨ i' = 18 ∨ i' = 19 := by
   have : i' < 20 := hilt
   omega
  rcases hcase with rfl | rfl | rfl | rfl | rfl | rfl | rfl | rfl | rfl | rfl | rfl | rfl | rfl | rfl | rfl | rfl | rfl | rfl | rfl | rfl
  ·
   refine wpOp_step (o := { dst := some 49, op := Op.buildSlice 30 0 #[], type := 30, pos := "ref.go:225", after := #[], guard := none }) rfl ?_
   intro K hK
   have h19 : listed.getD 19 false = false := by
    cases h : listed.getD 19 false with
    | false => rfl
    | true => rw [hcl 19 0 h (of_decide_eq_true (by kernel_rfl))] at hl; cases hl
   obtain ⟨hb, hG⟩ : Below W.heap.size W w ∧ InsG l j ⟨r, x, y, kk⟩ W listed a w := by
    rcases hI with ⟨_, hb, hG⟩ | ⟨h, _⟩
    ·exact ⟨hb, hG⟩
    ·rw [h19] at h; cases h
   have n5 : listed.getD 5 false = false := by
    cases h : listed.getD 5 false with
    | false => rfl
    | true => rw [hcl 5 0 h (of_decide_eq_true (by kernel_rfl))] at hl; cases hl
   have n12 : listed.getD 12 false = false := by
    cases h : listed.getD 12 false with
    | false => rfl
    | true => rw [hcl 12 5 h (of_decide_eq_true (by kernel_rfl))] at n5; cases n5
   have n17 : listed.getD 17 false = false := by
    cases h : listed.getD 17 false with
    | false => rfl
    | true => rw [hcl 17 12 h (of_decide_eq_true (by kernel_rfl))] at n12; cases n12
   go_simp
   refine hK _ _ ⟨(hS.put hn 0 49 _ rfl (by show 49 < 136; omega) (fun u h => by injection h with h; cases h)), .inl ⟨by rw [getD_set hls, if_neg (by omega)]; exact h19, hb.alloc hb.size _, ?_⟩⟩
   exact hG.first hls hsz.out n5 n12 n17 hb.size
  ·
   refine wpOp_step (o := { dst := some 50, op := Op.fieldAddr 33 (Operand.tmp 4) 0, type := 0, pos := "ref.go:225", after := #[], guard := none }) rfl ?_
   intro K hK
   have h19 : listed.getD 19 false = false := by
    cases h : listed.getD 19 false with
    | false => rfl
    | true => rw [hcl 19 1 h (of_decide_eq_true (by kernel_rfl))] at hl; cases hl
   obtain ⟨hb, hG⟩ : Below W.heap.size W w ∧ InsG l j ⟨r, x, y, kk⟩ W listed a w := by
    rcases hI with ⟨_, hb, hG⟩ | ⟨h, _⟩
    ·exact ⟨hb, hG⟩
    ·rw [h19] at h; cases h
   have q4 : a.tmps[4]? = some (.pointer (some ⟨b4, 0, none⟩)) := (hS.keep 4 (of_decide_eq_true (by kernel_rfl))).trans rfl
   go_simp
   exact hK _ _ ⟨(hS.put hn 1 50 _ rfl (by show 50 < 136; omega) (fun u h => by injection h with h; injection h with h; exact h.symm)), .inl ⟨by rw [getD_set hls, if_neg (by omega)]; exact h19, hb, hG.same (by omega) hls (by simp) (by simp) (by simp) (by simp) (by simp)⟩⟩
  ·
   refine wpOp_step (o := { dst := some 51, op := Op.load 30 (Operand.tmp 50), type := 30, pos := "ref.go:225", after := #[{ on := 1, ground := Ground.data }], guard := none }) rfl ?_
   intro K hK
   have h19 : listed.getD 19 false = false := by
    cases h : listed.getD 19 false with
    | false => rfl
    | true => rw [hcl 19 2 h (of_decide_eq_true (by kernel_rfl))] at hl; cases hl
   obtain ⟨hb, hG⟩ : Below W.heap.size W w ∧ InsG l j ⟨r, x, y, kk⟩ W listed a w := by
    rcases hI with ⟨_, hb, hG⟩ | ⟨h, _⟩
    ·exact ⟨hb, hG⟩
    ·rw [h19] at h; cases h
   have q50 : a.tmps[50]? = some (.pointer (some ⟨b4, 0, none⟩)) := hS.val 1 50 _ (hd 1 (of_decide_eq_true (by kernel_rfl))) rfl rfl
   have m0 := (hU.next hb).cell 0 _ rfl
   go_simp
   exact hK _ _ ⟨(hS.put hn 2 51 _ rfl (by show 51 < 136; omega) (fun u h => by injection h with h; injection h with h; exact h.symm)), .inl ⟨by rw [getD_set hls, if_neg (by omega)]; exact h19, hb, hG.same (by omega) hls (by simp) (by simp) (by simp) (by simp) (by simp)⟩⟩
  ·
   refine wpOp_step (o := { dst := some 52, op := Op.move (Operand.tmp 6), type := 3, pos := "ref.go:225", after := #[], guard := none }) rfl ?_
   intro K hK
   have h19 : listed.getD 19 false = false := by
    cases h : listed.getD 19 false with
    | false => rfl
    | true => rw [hcl 19 3 h (of_decide_eq_true (by kernel_rfl))] at hl; cases hl
   obtain ⟨hb, hG⟩ : Below W.heap.size W w ∧ InsG l j ⟨r, x, y, kk⟩ W listed a w := by
    rcases hI with ⟨_, hb, hG⟩ | ⟨h, _⟩
    ·exact ⟨hb, hG⟩
    ·rw [h19] at h; cases h
   have q6 : a.tmps[6]? = some (.int .i64 (j : Int)) := (hS.keep 6 (of_decide_eq_true (by kernel_rfl))).trans rfl
   go_simp
   exact hK _ _ ⟨(hS.put hn 3 52 _ rfl (by show 52 < 136; omega) (fun u h => by injection h with h; injection h with h; exact h.symm)), .inl ⟨by rw [getD_set hls, if_neg (by omega)]; exact h19, hb, hG.same (by omega) hls (by simp) (by simp) (by simp) (by simp) (by simp)⟩⟩
  ·
   refine wpOp_step (o := { dst := some 53, op := Op.slice 30 (Operand.tmp 51) none (some (Operand.tmp 52)) none, type := 30, pos := "ref.go:225", after := #[{ on := 2, ground := Ground.data }, { on := 3, ground := Ground.data }], guard := none }) rfl ?_
   intro K hK
   have h19 : listed.getD 19 false = false := by
    cases h : listed.getD 19 false with
    | false => rfl
    | true => rw [hcl 19 4 h (of_decide_eq_true (by kernel_rfl))] at hl; cases hl
   obtain ⟨hb, hG⟩ : Below W.heap.size W w ∧ InsG l j ⟨r, x, y, kk⟩ W listed a w := by
    rcases hI with ⟨_, hb, hG⟩ | ⟨h, _⟩
    ·exact ⟨hb, hG⟩
    ·rw [h19] at h; cases h
   have q51 : a.tmps[51]? = some (.slice (some ⟨b, off, none⟩) l.length c) := hS.val 2 51 _ (hd 2 (of_decide_eq_true (by kernel_rfl))) rfl rfl
   have q52 : a.tmps[52]? = some (.int .i64 (j : Int)) := hS.val 3 52 _ (hd 3 (of_decide_eq_true (by kernel_rfl))) rfl rfl
   go_simp
   exact hK _ _ ⟨(hS.put hn 4 53 _ rfl (by show 53 < 136; omega) (fun u h => by injection h with h; injection h with h; exact h.symm)), .inl ⟨by rw [getD_set hls, if_neg (by omega)]; exact h19, hb, hG.same (by omega) hls (by simp) (by simp) (by simp) (by simp) (by simp)⟩⟩
  ·
   refine wpOp_step (o := { dst := some 54, op := Op.call { callee := Callee.builtin Builtin.append, args := #[Operand.tmp 49, Operand.tmp 53], argTypes := #[30, 30] }, type := 30, pos := "ref.go:225", after := #[{ on := 0, ground := Ground.data }, { on := 4, ground := Ground.data }], guard := none }) rfl ?_
   intro K hK
   have h19 : listed.getD 19 false = false := by
    cases h : listed.getD 19 false with
    | false => rfl
    | true => rw [hcl 19 5 h (of_decide_eq_true (by kernel_rfl))] at hl; cases hl
   obtain ⟨hb, hG⟩ : Below W.heap.size W w ∧ InsG l j ⟨r, x, y, kk⟩ W listed a w := by
    rcases hI with ⟨_, hb, hG⟩ | ⟨h, _⟩
    ·exact ⟨hb, hG⟩
    ·rw [h19] at h; cases h
   have n12 : listed.getD 12 false = false := by
    cases h : listed.getD 12 false with
    | false => rfl
    | true => rw [hcl 12 5 h (of_decide_eq_true (by kernel_rfl))] at hl; cases hl
   have n17 : listed.getD 17 false = false := by
    cases h : listed.getD 17 false with
    | false => rfl
    | true => rw [hcl 17 12 h (of_decide_eq_true (by kernel_rfl))] at n12; cases n12
   obtain ⟨rv, g7, _, _, _, h0, h11⟩ := hG
   obtain ⟨e0, hown⟩ := h0 hl (hd 0 (of_decide_eq_true (by kernel_rfl)))
   have q53 : a.tmps[53]? = some (.slice (some ⟨b, off, none⟩) j c) := hS.val 4 53 _ (hd 4 (of_decide_eq_true (by kernel_rfl))) rfl rfl
   refine step_append_own_at rfl _ _ 30 rfl W.heap.size 45 i0 (seatV 0 0 0 0) 4 32 Tryz.underlying30 hi hz0 hz1 hz2 rfl (by omega) _ _ _ (eval_of e0) hown ⟨b, off, none⟩ j c ((l.take j).flatMap seatC) (eval_of q53) (by rw [flat_len seatC 4 seatC_len, List.length_take, Nat.min_eq_left hj]) (fun q u hq => by rw [Addr.add_lit]; exact (hC.next hb).flat_takeG seatC_len (by omega) q u hq) (fun u hu => seat_one _ u hu) (by unfold maxLen; omega) (by omega) hb.size ?_
   intro v2 w2 hown2 hgr hloc
   rw [Nat.zero_add, List.nil_append] at hown2
   refine hK _ _ ⟨(hS.put hn 5 54 _ rfl (by show 54 < 136; omega) (fun u h => by injection h with h; cases h)), .inl ⟨by rw [getD_set hls, if_neg (by omega)]; exact h19, hb.grown hgr hb.size (row_high hown), ?_⟩⟩
   exact InsG.copied hls hsz.out n12 n17 (hd 0 (of_decide_eq_true (by kernel_rfl))) hl hown hown2 hgr hloc h11
  ·
   refine wpOp_step (o := { dst := some 55, op := Op.fieldAddr 33 (Operand.tmp 1) 0, type := 0, pos := "ref.go:225", after := #[], guard := none }) rfl ?_
   intro K hK
   have h19 : listed.getD 19 false = false := by
    cases h : listed.getD 19 false with
    | false => rfl
    | true => rw [hcl 19 6 h (of_decide_eq_true (by kernel_rfl))] at hl; cases hl
   obtain ⟨hb, hG⟩ : Below W.heap.size W w ∧ InsG l j ⟨r, x, y, kk⟩ W listed a w := by
    rcases hI with ⟨_, hb, hG⟩ | ⟨h, _⟩
    ·exact ⟨hb, hG⟩
    ·rw [h19] at h; cases h
   have q1 : a.tmps[1]? = some (.pointer (some ⟨b1, 0, none⟩)) := (hS.keep 1 (of_decide_eq_true (by kernel_rfl))).trans rfl
   go_simp
   exact hK _ _ ⟨(hS.put hn 6 55 _ rfl (by show 55 < 136; omega) (fun u h => by injection h with h; injection h with h; exact h.symm)), .inl ⟨by rw [getD_set hls, if_neg (by omega)]; exact h19, hb, hG.same (by omega) hls (by simp) (by simp) (by simp) (by simp) (by simp)⟩⟩
  ·
   refine wpOp_step (o := { dst := some 56, op := Op.load 30 (Operand.tmp 55), type := 30, pos := "ref.go:225", after := #[{ on := 6, ground := Ground.data }], guard := none }) rfl ?_
   intro K hK
   have h19 : listed.getD 19 false = false := by
    cases h : listed.getD 19 false with
    | false => rfl
    | true => rw [hcl 19 7 h (of_decide_eq_true (by kernel_rfl))] at hl; cases hl
   obtain ⟨hb, hG⟩ : Below W.heap.size W w ∧ InsG l j ⟨r, x, y, kk⟩ W listed a w := by
    rcases hI with ⟨_, hb, hG⟩ | ⟨h, _⟩
    ·exact ⟨hb, hG⟩
    ·rw [h19] at h; cases h
   have q55 : a.tmps[55]? = some (.pointer (some ⟨b1, 0, none⟩)) := hS.val 6 55 _ (hd 6 (of_decide_eq_true (by kernel_rfl))) rfl rfl
   have m0 := (hV.next hb).cell 0 _ rfl
   go_simp
   exact hK _ _ ⟨(hS.put hn 7 56 _ rfl (by show 56 < 136; omega) (fun u h => by injection h with h; injection h with h; exact h.symm)), .inl ⟨by rw [getD_set hls, if_neg (by omega)]; exact h19, hb, hG.same (by omega) hls (by simp) (by simp) (by simp) (by simp) (by simp)⟩⟩
  ·
   refine wpOp_step (o := { dst := some 57, op := Op.move (Operand.tmp 5), type := 3, pos := "ref.go:225", after := #[], guard := none }) rfl ?_
   intro K hK
   have h19 : listed.getD 19 false = false := by
    cases h : listed.getD 19 false with
    | false => rfl
    | true => rw [hcl 19 8 h (of_decide_eq_true (by kernel_rfl))] at hl; cases hl
   obtain ⟨hb, hG⟩ : Below W.heap.size W w ∧ InsG l j ⟨r, x, y, kk⟩ W listed a w := by
    rcases hI with ⟨_, hb, hG⟩ | ⟨h, _⟩
    ·exact ⟨hb, hG⟩
    ·rw [h19] at h; cases h
   have q5 : a.tmps[5]? = some (.int .i64 (i : Int)) := (hS.keep 5 (of_decide_eq_true (by kernel_rfl))).trans rfl
   go_simp
   exact hK _ _ ⟨(hS.put hn 8 57 _ rfl (by show 57 < 136; omega) (fun u h => by injection h with h; injection h with h; exact h.symm)), .inl ⟨by rw [getD_set hls, if_neg (by omega)]; exact h19, hb, hG.same (by omega) hls (by simp) (by simp) (by simp) (by simp) (by simp)⟩⟩
  ·
   refine wpOp_step (o := { dst := some 58, op := Op.indexAddr 30 (Operand.tmp 56) (Operand.tmp 57), type := 0, pos := "ref.go:225", after := #[{ on := 7, ground := Ground.data }, { on := 8, ground := Ground.data }], guard := none }) rfl ?_
   intro K hK
   have h19 : listed.getD 19 false = false := by
    cases h : listed.getD 19 false with
    | false => rfl
    | true => rw [hcl 19 9 h (of_decide_eq_true (by kernel_rfl))] at hl; cases hl
   obtain ⟨hb, hG⟩ : Below W.heap.size W w ∧ InsG l j ⟨r, x, y, kk⟩ W listed a w := by
    rcases hI with ⟨_, hb, hG⟩ | ⟨h, _⟩
    ·exact ⟨hb, hG⟩
    ·rw [h19] at h; cases h
   have q56 : a.tmps[56]? = some (.slice (some ⟨vb, vo, none⟩) n vc) := hS.val 7 56 _ (hd 7 (of_decide_eq_true (by kernel_rfl))) rfl rfl
   have q57 : a.tmps[57]? = some (.int .i64 (i : Int)) := hS.val 8 57 _ (hd 8 (of_decide_eq_true (by kernel_rfl))) rfl rfl
   go_simp
   exact hK _ _ ⟨(hS.put hn 9 58 _ rfl (by show 58 < 136; omega) (fun u h => by injection h with h; injection h with h; exact h.symm)), .inl ⟨by rw [getD_set hls, if_neg (by omega)]; exact h19, hb, hG.same (by omega) hls (by simp) (by simp) (by simp) (by simp) (by simp)⟩⟩
  ·
   refine wpOp_step (o := { dst := some 59, op := Op.load 45 (Operand.tmp 58), type := 45, pos := "ref.go:225", after := #[{ on := 9, ground := Ground.data }], guard := none }) rfl ?_
   intro K hK
   have h19 : listed.getD 19 false = false := by
    cases h : listed.getD 19 false with
    | false => rfl
    | true => rw [hcl 19 10 h (of_decide_eq_true (by kernel_rfl))] at hl; cases hl
   obtain ⟨hb, hG⟩ : Below W.heap.size W w ∧ InsG l j ⟨r, x, y, kk⟩ W listed a w := by
    rcases hI with ⟨_, hb, hG⟩ | ⟨h, _⟩
    ·exact ⟨hb, hG⟩
    ·rw [h19] at h; cases h
   have q58 : a.tmps[58]? = some (.pointer (some ⟨vb, vo + i * 4, none⟩)) := hS.val 9 58 _ (hd 9 (of_decide_eq_true (by kernel_rfl))) rfl rfl
   obtain ⟨_, m0, m1, m2, m3⟩ := hT.next hb
   go_simp
   exact hK _ _ ⟨(hS.put hn 10 59 _ rfl (by show 59 < 136; omega) (fun u h => by injection h with h; injection h with h; exact h.symm)), .inl ⟨by rw [getD_set hls, if_neg (by omega)]; exact h19, hb, hG.same (by omega) hls (by simp) (by simp) (by simp) (by simp) (by simp)⟩⟩
  ·
   refine wpOp_step (o := { dst := some 60, op := Op.buildSlice 30 1 #[(0, Operand.tmp 59)], type := 30, pos := "ref.go:225", after := #[{ on := 10, ground := Ground.data }], guard := none }) rfl ?_
   intro K hK
   have h19 : listed.getD 19 false = false := by
    cases h : listed.getD 19 false with
    | false => rfl
    | true => rw [hcl 19 11 h (of_decide_eq_true (by kernel_rfl))] at hl; cases hl
   obtain ⟨hb, hG⟩ : Below W.heap.size W w ∧ InsG l j ⟨r, x, y, kk⟩ W listed a w := by
    rcases hI with ⟨_, hb, hG⟩ | ⟨h, _⟩
    ·exact ⟨hb, hG⟩
    ·rw [h19] at h; cases h
   have n12 : listed.getD 12 false = false := by
    cases h : listed.getD 12 false with
    | false => rfl
    | true => rw [hcl 12 11 h (of_decide_eq_true (by kernel_rfl))] at hl; cases hl
   have n17 : listed.getD 17 false = false := by
    cases h : listed.getD 17 false with
    | false => rfl
    | true => rw [hcl 17 12 h (of_decide_eq_true (by kernel_rfl))] at n12; cases n12
   have q59 : a.tmps[59]? = some (seatV r x y kk) := hS.val 10 59 _ (hd 10 (of_decide_eq_true (by kernel_rfl))) rfl rfl
   go_simp
   refine hK _ _ ⟨(hS.put hn 11 60 _ rfl (by show 60 < 136; omega) (fun u h => by injection h with h; cases h)), .inl ⟨by rw [getD_set hls, if_neg (by omega)]; exact h19, hb.alloc hb.size _, ?_⟩⟩
   exact hG.one hls hsz.out n12 n17
  ·
   refine wpOp_step (o := { dst := some 61, op := Op.call { callee := Callee.builtin Builtin.append, args := #[Operand.tmp 54, Operand.tmp 60], argTypes := #[30, 30] }, type := 30, pos := "ref.go:225", after := #[{ on := 5, ground := Ground.data }, { on := 11, ground := Ground.data }, { on := 5, ground := Ground.chain }], guard := none }) rfl ?_
   intro K hK
   have h19 : listed.getD 19 false = false := by
    cases h : listed.getD 19 false with
    | false => rfl
    | true => rw [hcl 19 12 h (of_decide_eq_true (by kernel_rfl))] at hl; cases hl
   obtain ⟨hb, hG⟩ : Below W.heap.size W w ∧ InsG l j ⟨r, x, y, kk⟩ W listed a w := by
    rcases hI with ⟨_, hb, hG⟩ | ⟨h, _⟩
    ·exact ⟨hb, hG⟩
    ·rw [h19] at h; cases h
   have n17 : listed.getD 17 false = false := by
    cases h : listed.getD 17 false with
    | false => rfl
    | true => rw [hcl 17 12 h (of_decide_eq_true (by kernel_rfl))] at hl; cases hl
   obtain ⟨rv, g7, _, _, h5, _, h11⟩ := hG
   obtain ⟨e5, hown⟩ := h5 hl (hd 5 (of_decide_eq_true (by kernel_rfl)))
   obtain ⟨e11, hS7, _⟩ := h11 (hd 11 (of_decide_eq_true (by kernel_rfl))) hl
   refine step_append_own_at rfl _ _ 30 rfl W.heap.size 45 i0 (seatV 0 0 0 0) 4 32 Tryz.underlying30 hi hz0 hz1 hz2 rfl (by omega) _ _ _ (eval_of e5) hown ⟨g7, 0, none⟩ 1 1 (seatC ⟨r, x, y, kk⟩) (eval_of e11) rfl (fun q u hq => by rw [Addr.add_lit, Nat.zero_add]; exact hS7.cell q u (by show (seatC ⟨r, x, y, kk⟩).toArray[q]? = some u; rw [List.getElem?_toArray]; exact hq)) (fun u hu => seat_one [⟨r, x, y, kk⟩] u (by simpa using hu)) (by unfold maxLen; omega) (by omega) hb.size ?_
   intro v2 w2 hown2 hgr hloc
   refine hK _ _ ⟨(hS.put hn 12 61 _ rfl (by show 61 < 136; omega) (fun u h => by injection h with h; cases h)), .inl ⟨by rw [getD_set hls, if_neg (by omega)]; exact h19, hb.grown hgr hb.size (row_high hown), ?_⟩⟩
   exact InsG.put hls hsz.out n17 (hd 5 (of_decide_eq_true (by kernel_rfl))) hown2
  ·
   refine wpOp_step (o := { dst := some 62, op := Op.fieldAddr 33 (Operand.tmp 4) 0, type := 0, pos := "ref.go:225", after := #[], guard := none }) rfl ?_
   intro K hK
   have h19 : listed.getD 19 false = false := by
    cases h : listed.getD 19 false with
    | false => rfl
    | true => rw [hcl 19 13 h (of_decide_eq_true (by kernel_rfl))] at hl; cases hl
   obtain ⟨hb, hG⟩ : Below W.heap.size W w ∧ InsG l j ⟨r, x, y, kk⟩ W listed a w := by
    rcases hI with ⟨_, hb, hG⟩ | ⟨h, _⟩
    ·exact ⟨hb, hG⟩
    ·rw [h19] at h; cases h
   have q4 : a.tmps[4]? = some (.pointer (some ⟨b4, 0, none⟩)) := (hS.keep 4 (of_decide_eq_true (by kernel_rfl))).trans rfl
   go_simp
   exact hK _ _ ⟨(hS.put hn 13 62 _ rfl (by show 62 < 136; omega) (fun u h => by injection h with h; injection h with h; exact h.symm)), .inl ⟨by rw [getD_set hls, if_neg (by omega)]; exact h19, hb, hG.same (by omega) hls (by simp) (by simp) (by simp) (by simp) (by simp)⟩⟩
  ·
   refine wpOp_step (o := { dst := some 63, op := Op.load 30 (Operand.tmp 62), type := 30, pos := "ref.go:225", after := #[{ on := 13, ground := Ground.data }], guard := none }) rfl ?_
   intro K hK
   have h19 : listed.getD 19 false = false := by
    cases h : listed.getD 19 false with
    | false => rfl
    | true => rw [hcl 19 14 h (of_decide_eq_true (by kernel_rfl))] at hl; cases hl
   obtain ⟨hb, hG⟩ : Below W.heap.size W w ∧ InsG l j ⟨r, x, y, kk⟩ W listed a w := by
    rcases hI with ⟨_, hb, hG⟩ | ⟨h, _⟩
    ·exact ⟨hb, hG⟩
    ·rw [h19] at h; cases h
   have q62 : a.tmps[62]? = some (.pointer (some ⟨b4, 0, none⟩)) := hS.val 13 62 _ (hd 13 (of_decide_eq_true (by kernel_rfl))) rfl rfl
   have m0 := (hU.next hb).cell 0 _ rfl
   go_simp
   exact hK _ _ ⟨(hS.put hn 14 63 _ rfl (by show 63 < 136; omega) (fun u h => by injection h with h; injection h with h; exact h.symm)), .inl ⟨by rw [getD_set hls, if_neg (by omega)]; exact h19, hb, hG.same (by omega) hls (by simp) (by simp) (by simp) (by simp) (by simp)⟩⟩
  ·
   refine wpOp_step (o := { dst := some 64, op := Op.move (Operand.tmp 6), type := 3, pos := "ref.go:225", after := #[], guard := none }) rfl ?_
   intro K hK
   have h19 : listed.getD 19 false = false := by
    cases h : listed.getD 19 false with
    | false => rfl
    | true => rw [hcl 19 15 h (of_decide_eq_true (by kernel_rfl))] at hl; cases hl
   obtain ⟨hb, hG⟩ : Below W.heap.size W w ∧ InsG l j ⟨r, x, y, kk⟩ W listed a w := by
    rcases hI with ⟨_, hb, hG⟩ | ⟨h, _⟩
    ·exact ⟨hb, hG⟩
    ·rw [h19] at h; cases h
   have q6 : a.tmps[6]? = some (.int .i64 (j : Int)) := (hS.keep 6 (of_decide_eq_true (by kernel_rfl))).trans rfl
   go_simp
   exact hK _ _ ⟨(hS.put hn 15 64 _ rfl (by show 64 < 136; omega) (fun u h => by injection h with h; injection h with h; exact h.symm)), .inl ⟨by rw [getD_set hls, if_neg (by omega)]; exact h19, hb, hG.same (by omega) hls (by simp) (by simp) (by simp) (by simp) (by simp)⟩⟩
  ·
   refine wpOp_step (o := { dst := some 65, op := Op.slice 30 (Operand.tmp 63) (some (Operand.tmp 64)) none none, type := 30, pos := "ref.go:225", after := #[{ on := 14, ground := Ground.data }, { on := 15, ground := Ground.data }], guard := none }) rfl ?_
   intro K hK
   have h19 : listed.getD 19 false = false := by
    cases h : listed.getD 19 false with
    | false => rfl
    | true => rw [hcl 19 16 h (of_decide_eq_true (by kernel_rfl))] at hl; cases hl
   obtain ⟨hb, hG⟩ : Below W.heap.size W w ∧ InsG l j ⟨r, x, y, kk⟩ W listed a w := by
    rcases hI with ⟨_, hb, hG⟩ | ⟨h, _⟩
    ·exact ⟨hb, hG⟩
    ·rw [h19] at h; cases h
   have q63 : a.tmps[63]? = some (.slice (some ⟨b, off, none⟩) l.length c) := hS.val 14 63 _ (hd 14 (of_decide_eq_true (by kernel_rfl))) rfl rfl
   have q64 : a.tmps[64]? = some (.int .i64 (j : Int)) := hS.val 15 64 _ (hd 15 (of_decide_eq_true (by kernel_rfl))) rfl rfl
   go_simp
   exact hK _ _ ⟨(hS.put hn 16 65 _ rfl (by show 65 < 136; omega) (fun u h => by injection h with h; injection h with h; exact h.symm)), .inl ⟨by rw [getD_set hls, if_neg (by omega)]; exact h19, hb, hG.same (by omega) hls (by simp) (by simp) (by simp) (by simp) (by simp)⟩⟩
  ·
   refine wpOp_step (o := { dst := some 66, op := Op.call { callee := Callee.builtin Builtin.append, args := #[Operand.tmp 61, Operand.tmp 65], argTypes := #[30, 30] }, type := 30, pos := "ref.go:225", after := #[{ on := 12, ground := Ground.data }, { on := 16, ground := Ground.data }, { on := 12, ground := Ground.chain }], guard := none }) rfl ?_
   intro K hK
   have h19 : listed.getD 19 false = false := by
    cases h : listed.getD 19 false with
    | false => rfl
    | true => rw [hcl 19 17 h (of_decide_eq_true (by kernel_rfl))] at hl; cases hl
   obtain ⟨hb, hG⟩ : Below W.heap.size W w ∧ InsG l j ⟨r, x, y, kk⟩ W listed a w := by
    rcases hI with ⟨_, hb, hG⟩ | ⟨h, _⟩
    ·exact ⟨hb, hG⟩
    ·rw [h19] at h; cases h
   obtain ⟨rv, g7, _, h12, _, _, _⟩ := hG
   obtain ⟨e12, hown⟩ := h12 hl (hd 12 (of_decide_eq_true (by kernel_rfl)))
   have q65 : a.tmps[65]? = some (.slice (some A) (l.length - j) (c - j)) := hS.val 16 65 _ (hd 16 (of_decide_eq_true (by kernel_rfl))) rfl rfl
   refine step_append_own_at rfl _ _ 30 rfl W.heap.size 45 i0 (seatV 0 0 0 0) 4 32 Tryz.underlying30 hi hz0 hz1 hz2 rfl (by omega) _ _ _ (eval_of e12) hown A (l.length - j) (c - j) ((l.drop j).flatMap seatC) (eval_of q65) (by rw [flat_len seatC 4 seatC_len, List.length_drop]) (fun q u hq => hA2 w hb q u hq) (fun u hu => seat_one _ u hu) (by unfold maxLen; omega) (by omega) hb.size ?_
   intro v2 w2 hown2 hgr hloc
   rw [show j + 1 + (l.length - j) = l.length + 1 by omega] at hown2
   refine hK _ _ ⟨(hS.put hn 17 66 _ rfl (by show 66 < 136; omega) (fun u h => by injection h with h; cases h)), .inl ⟨by rw [getD_set hls, if_neg (by omega)]; exact h19, hb.grown hgr hb.size (row_high hown), ?_⟩⟩
   exact InsG.all hls hsz.out (hd 12 (of_decide_eq_true (by kernel_rfl))) (hcl 12 5 (hd 12 (of_decide_eq_true (by kernel_rfl))) (of_decide_eq_true (by kernel_rfl))) hown2
  ·
   refine wpOp_step (o := { dst := some 67, op := Op.fieldAddr 33 (Operand.tmp 4) 0, type := 0, pos := "ref.go:225", after := #[{ on := 0, ground := Ground.phase }, { on := 1, ground := Ground.phase }, { on := 2, ground := Ground.phase }, { on := 3, ground := Ground.phase }, { on := 4, ground := Ground.phase }, { on := 5, ground := Ground.phase }, { on := 6, ground := Ground.phase }, { on := 7, ground := Ground.phase }, { on := 8, ground := Ground.phase }, { on := 9, ground := Ground.phase }, { on := 10, ground := Ground.phase }, { on := 11, ground := Ground.phase }, { on := 12, ground := Ground.phase }, { on := 13, ground := Ground.phase }, { on := 14, ground := Ground.phase }, { on := 15, ground := Ground.phase }, { on := 16, ground := Ground.phase }, { on := 17, ground := Ground.phase }], guard := none }) rfl ?_
   intro K hK
   have h19 : listed.getD 19 false = false := by
    cases h : listed.getD 19 false with
    | false => rfl
    | true => rw [hcl 19 18 h (of_decide_eq_true (by kernel_rfl))] at hl; cases hl
   obtain ⟨hb, hG⟩ : Below W.heap.size W w ∧ InsG l j ⟨r, x, y, kk⟩ W listed a w := by
    rcases hI with ⟨_, hb, hG⟩ | ⟨h, _⟩
    ·exact ⟨hb, hG⟩
    ·rw [h19] at h; cases h
   have q4 : a.tmps[4]? = some (.pointer (some ⟨b4, 0, none⟩)) := (hS.keep 4 (of_decide_eq_true (by kernel_rfl))).trans rfl
   go_simp
   exact hK _ _ ⟨(hS.put hn 18 67 _ rfl (by show 67 < 136; omega) (fun u h => by injection h with h; injection h with h; exact h.symm)), .inl ⟨by rw [getD_set hls, if_neg (by omega)]; exact h19, hb, hG.same (by omega) hls (by simp) (by simp) (by simp) (by simp) (by simp)⟩⟩
  ·
   refine wpOp_step (o := { dst := none, op := Op.store 30 (Operand.tmp 67) (Operand.tmp 66), type := 0, pos := "ref.go:225", after := #[{ on := 18, ground := Ground.data }, { on := 17, ground := Ground.data }, { on := 17, ground := Ground.chain }, { on := 0, ground := Ground.phase }, { on := 1, ground := Ground.phase }, { on := 2, ground := Ground.phase }, { on := 3, ground := Ground.phase }, { on := 4, ground := Ground.phase }, { on := 5, ground := Ground.phase }, { on := 6, ground := Ground.phase }, { on := 7, ground := Ground.phase }, { on := 8, ground := Ground.phase }, { on := 9, ground := Ground.phase }, { on := 10, ground := Ground.phase }, { on := 11, ground := Ground.phase }, { on := 12, ground := Ground.phase }, { on := 13, ground := Ground.phase }, { on := 14, ground := Ground.phase }, { on := 15, ground := Ground.phase }, { on := 16, ground := Ground.phase }, { on := 17, ground := Ground.phase }], guard := none }) rfl ?_
   intro K hK
   obtain ⟨hb, hG⟩ : Below W.heap.size W w ∧ InsG l j ⟨r, x, y, kk⟩ W listed a w := by
    rcases hI with ⟨_, hb, hG⟩ | ⟨h, _⟩
    ·exact ⟨hb, hG⟩
    ·rw [hl] at h; cases h
   obtain ⟨rv, g7, h17, _, _, _, _⟩ := hG
   obtain ⟨e17, hown⟩ := h17 (hd 17 (of_decide_eq_true (by kernel_rfl)))
   obtain ⟨a13, c13, rfl⟩ := row_slice hown
   have q67 : a.tmps[67]? = some (.pointer (some ⟨b4, 0, none⟩)) := hS.val 18 67 _ (hd 18 (of_decide_eq_true (by kernel_rfl))) rfl rfl
   have hx := hU.next hb
   have m0 := hx.cell 0 _ rfl
   have mf := hx.frozen 0
   have ml := hx.lt
   go_simp
   exact hK _ _ ⟨hS.skip 19 rfl, .inr ⟨by rw [getD_set hls, if_pos rfl], w, a13, c13, rfl, hb, e17, hown⟩⟩
 ·intro listed a w hall ⟨hS, hI⟩
  rcases hI with ⟨h, _⟩ | ⟨_, w1, a13, c13, rfl, hb, e17, hown⟩
  ·rw [hall 19 (by show 19 < 20; omega)] at h; cases h
  ·have hsz : a.tmps.size = 136 := hS.size
   obtain ⟨x0, hx0⟩ := slot_of (a := a) (k := 49) (by rw [hsz]; omega)
   obtain ⟨x5, hx5⟩ := slot_of (a := a) (k := 54) (by rw [hsz]; omega)
   obtain ⟨x11, hx11⟩ := slot_of (a := a) (k := 60) (by rw [hsz]; omega)
   obtain ⟨x12, hx12⟩ := slot_of (a := a) (k := 61) (by rw [hsz]; omega)
   have he := hS.frame [(49, x0), (50, .pointer (some ⟨b4, 0, none⟩)), (51, .slice (some ⟨b, off, none⟩) l.length c), (52, .int .i64 (j : Int)), (53, .slice (some ⟨b, off, none⟩) j c), (54, x5), (55, .pointer (some ⟨b1, 0, none⟩)), (56, .slice (some ⟨vb, vo, none⟩) n vc), (57, .int .i64 (i : Int)), (58, .pointer (some ⟨vb, vo + i * 4, none⟩)), (59, seatV r x y kk), (60, x11), (61, x12), (62, .pointer (some ⟨b4, 0, none⟩)), (63, .slice (some ⟨b, off, none⟩) l.length c), (64, .int .i64 (j : Int)), (65, .slice (some A) (l.length - j) (c - j)), (66, .slice a13 (l.length + 1) c13), (67, .pointer (some ⟨b4, 0, none⟩))] rfl (by show List.Pairwise _ [49, 50, 51, 52, 53, 54, 55, 56, 57, 58, 59, 60, 61, 62, 63, 64, 65, 66, 67]; decide) (by kernel_rfl) (List.forall_mem_cons.2 ⟨hx0, List.forall_mem_cons.2 ⟨hS.val 1 50 _ (hall 1 (by show 1 < 20; omega)) rfl rfl, List.forall_mem_cons.2 ⟨hS.val 2 51 _ (hall 2 (by show 2 < 20; omega)) rfl rfl, List.forall_mem_cons.2 ⟨hS.val 3 52 _ (hall 3 (by show 3 < 20; omega)) rfl rfl, List.forall_mem_cons.2 ⟨hS.val 4 53 _ (hall 4 (by show 4 < 20; omega)) rfl rfl, List.forall_mem_cons.2 ⟨hx5, List.forall_mem_cons.2 ⟨hS.val 6 55 _ (hall 6 (by show 6 < 20; omega)) rfl rfl, List.forall_mem_cons.2 ⟨hS.val 7 56 _ (hall 7 (by show 7 < 20; omega)) rfl rfl, List.forall_mem_cons.2 ⟨hS.val 8 57 _ (hall 8 (by show 8 < 20; omega)) rfl rfl, List.forall_mem_cons.2 ⟨hS.val 9 58 _ (hall 9 (by show 9 < 20; omega)) rfl rfl, List.forall_mem_cons.2 ⟨hS.val 10 59 _ (hall 10 (by show 10 < 20; omega)) rfl rfl, List.forall_mem_cons.2 ⟨hx11, List.forall_mem_cons.2 ⟨hx12, List.forall_mem_cons.2 ⟨hS.val 13 62 _ (hall 13 (by show 13 < 20; omega)) rfl rfl, List.forall_mem_cons.2 ⟨hS.val 14 63 _ (hall 14 (by show 14 < 20; omega)) rfl rfl, List.forall_mem_cons.2 ⟨hS.val 15 64 _ (hall 15 (by show 15 < 20; omega)) rfl rfl, List.forall_mem_cons.2 ⟨hS.val 16 65 _ (hall 16 (by show 16 < 20; omega)) rfl rfl, List.forall_mem_cons.2 ⟨e17, List.forall_mem_cons.2 ⟨hS.val 18 67 _ (hall 18 (by show 18 < 20; omega)) rfl rfl, fun p hp => by cases hp⟩⟩⟩⟩⟩⟩⟩⟩⟩⟩⟩⟩⟩⟩⟩⟩⟩⟩⟩)
   have e2 : ({ tmps := putAll (A0::.pointer (some ⟨b1, 0, none⟩)::A2::A3::.pointer (some ⟨b4, 0, none⟩)::.int .i64 (i : Int)::.int .i64 (j : Int)::A7::A8::A9::B0::B1::B2::B3::B4::B5::B6::B7::B8::B9::C0::C1::C2::C3::C4::C5::C6::C7::C8::C9::D0::D1::D2::D3::D4::D5::D6::D7::D8::D9::E0::E1::E2::E3::E4::E5::E6::E7::E8::E9::F0::F1::F2::F3::F4::F5::F6::F7::F8::F9::G0::G1::G2::G3::G4::G5::G6::G7::G8::G9::H0::H1::H2::H3::H4::H5::H6::H7::H8::H9::I0::I1::I2::I3::I4::I5::I6::I7::I8::I9::J0::J1::J2::J3::J4::J5::J6::J7::J8::J9::K0::K1::K2::K3::K4::K5::K6::K7::K8::K9::L0::L1::L2::L3::L4::L5::L6::L7::L8::L9::M0::M1::M2::M3::M4::M5::M6::M7::M8::M9::N0::N1::N2::N3::N4::N5::[]).toArray [(49, x0), (50, .pointer (some ⟨b4, 0, none⟩)), (51, .slice (some ⟨b, off, none⟩) l.length c), (52, .int .i64 (j : Int)), (53, .slice (some ⟨b, off, none⟩) j c), (54, x5), (55, .pointer (some ⟨b1, 0, none⟩)), (56, .slice (some ⟨vb, vo, none⟩) n vc), (57, .int .i64 (i : Int)), (58, .pointer (some ⟨vb, vo + i * 4, none⟩)), (59, seatV r x y kk), (60, x11), (61, x12), (62, .pointer (some ⟨b4, 0, none⟩)), (63, .slice (some ⟨b, off, none⟩) l.length c), (64, .int .i64 (j : Int)), (65, .slice (some A) (l.length - j) (c - j)), (66, .slice a13 (l.length + 1) c13), (67, .pointer (some ⟨b4, 0, none⟩))], defers := [] } : Act) = { tmps := (A0::.pointer (some ⟨b1, 0, none⟩)::A2::A3::.pointer (some ⟨b4, 0, none⟩)::.int .i64 (i : Int)::.int .i64 (j : Int)::A7::A8::A9::B0::B1::B2::B3::B4::B5::B6::B7::B8::B9::C0::C1::C2::C3::C4::C5::C6::C7::C8::C9::D0::D1::D2::D3::D4::D5::D6::D7::D8::D9::E0::E1::E2::E3::E4::E5::E6::E7::E8::x0::.pointer (some ⟨b4, 0, none⟩)::.slice (some ⟨b, off, none⟩) l.length c::.int .i64 (j : Int)::.slice (some ⟨b, off, none⟩) j c::x5::.pointer (some ⟨b1, 0, none⟩)::.slice (some ⟨vb, vo, none⟩) n vc::.int .i64 (i : Int)::.pointer (some ⟨vb, vo + i * 4, none⟩)::seatV r x y kk::x11::x12::.pointer (some ⟨b4, 0, none⟩)::.slice (some ⟨b, off, none⟩) l.length c::.int .i64 (j : Int)::.slice (some A) (l.length - j) (c - j)::.slice a13 (l.length + 1) c13::.pointer (some ⟨b4, 0, none⟩)::G8::G9::H0::H1::H2::H3::H4::H5::H6::H7::H8::H9::I0::I1::I2::I3::I4::I5::I6::I7::I8::I9::J0::J1::J2::J3::J4::J5::J6::J7::J8::J9::K0::K1::K2::K3::K4::K5::K6::K7::K8::K9::L0::L1::L2::L3::L4::L5::L6::L7::L8::L9::M0::M1::M2::M3::M4::M5::M6::M7::M8::M9::N0::N1::N2::N3::N4::N5::[]).toArray, defers := [] } := by kernel_rfl
   rw [hszd] at hown
   rw [he]
   show Q .normal { tmps := putAll (A0::.pointer (some ⟨b1, 0, none⟩)::A2::A3::.pointer (some ⟨b4, 0, none⟩)::.int .i64 (i : Int)::.int .i64 (j : Int)::A7::A8::A9::B0::B1::B2::B3::B4::B5::B6::B7::B8::B9::C0::C1::C2::C3::C4::C5::C6::C7::C8::C9::D0::D1::D2::D3::D4::D5::D6::D7::D8::D9::E0::E1::E2::E3::E4::E5::E6::E7::E8::E9::F0::F1::F2::F3::F4::F5::F6::F7::F8::F9::G0::G1::G2::G3::G4::G5::G6::G7::G8::G9::H0::H1::H2::H3::H4::H5::H6::H7::H8::H9::I0::I1::I2::I3::I4::I5::I6::I7::I8::I9::J0::J1::J2::J3::J4::J5::J6::J7::J8::J9::K0::K1::K2::K3::K4::K5::K6::K7::K8::K9::L0::L1::L2::L3::L4::L5::L6::L7::L8::L9::M0::M1::M2::M3::M4::M5::M6::M7::M8::M9::N0::N1::N2::N3::N4::N5::[]).toArray [(49, x0), (50, .pointer (some ⟨b4, 0, none⟩)), (51, .slice (some ⟨b, off, none⟩) l.length c), (52, .int .i64 (j : Int)), (53, .slice (some ⟨b, off, none⟩) j c), (54, x5), (55, .pointer (some ⟨b1, 0, none⟩)), (56, .slice (some ⟨vb, vo, none⟩) n vc), (57, .int .i64 (i : Int)), (58, .pointer (some ⟨vb, vo + i * 4, none⟩)), (59, seatV r x y kk), (60, x11), (61, x12), (62, .pointer (some ⟨b4, 0, none⟩)), (63, .slice (some ⟨b, off, none⟩) l.length c), (64, .int .i64 (j : Int)), (65, .slice (some A) (l.length - j) (c - j)), (66, .slice a13 (l.length + 1) c13), (67, .pointer (some ⟨b4, 0, none⟩))], defers := [] } _
   rw [e2]
   exact hQ w1 x0 x5 x11 x12 a13 c13 (hbd.trans (hszd ▸ hb)) hown
end Go.Proofs.YtgpkdjhllekihaaGreatDoor.Ven

namespace Go.Proofs.YtgpkdjhllekihaaGreatDoor.Ven
set_option linter.unusedVariables false
set_option maxRecDepth 100000
open Go.RowKit Go.Shelf

theorem Box.seatAt {w : World} {g : Nat} {r x y k : Int} (h : Box w g 45 #[.int .i64 r, .int .i64 x, .int .i64 y, .int .i64 k]) : SeatAt w g 0 r x y k := ⟨h.lt, h.cell 0 _ rfl, h.cell 1 _ rfl, h.cell 2 _ rfl, h.cell 3 _ rfl⟩
set_option maxHeartbeats 8000000 in
theorem region12_14 {Q : Exit → Act → World → Prop} (a0 : Act) (k kn kb ko kc n vb vo vc m : Nat) (hkn : k < kn) (hmn : m < n) (r x y kk : Int) (v1 v2 v4 : Value) (b1 : Nat) (W : World) (hsz0 : a0.tmps.size = 136) (h1 : a0.tmps[1]? = some (.pointer (some ⟨b1, 0, none⟩))) (h7 : a0.tmps[7]? = some (.int .i64 (k : Int)))
  (hV0 : Box W b1 33 #[.slice (some ⟨vb, vo, none⟩) n vc, v1, v2, .slice (some ⟨kb, ko, none⟩) kn kc, v4]) (hkl0 : kb < W.heap.size) (hk0 : W.cell? ⟨kb, ko + k, none⟩ = some (.int .i64 (m : Int))) (hT0 : SeatAt W vb (vo + m * 4) r x y kk)
  (hQ : ∀ W' g8, Below W.heap.size W W' → SeatAt W' g8 0 r x y kk → Q .normal { tmps := putAll a0.tmps [(87, .pointer (some ⟨b1, 0, none⟩)), (88, .slice (some ⟨vb, vo, none⟩) n vc), (89, .pointer (some ⟨b1, 3, none⟩)), (90, .slice (some ⟨kb, ko, none⟩) kn kc), (91, .int .i64 (k : Int)), (92, .pointer (some ⟨kb, ko + k, none⟩)), (93, .int .i64 (m : Int)), (94, .pointer (some ⟨vb, vo + m * 4, none⟩)), (95, seatV r x y kk), (8, .pointer (some ⟨g8, 0, none⟩))], defers := a0.defers } W') :
  (Code.region 14 #[{ dst := some 87, op := Op.fieldAddr 33 (Operand.tmp 1) 0, type := 0, pos := "ref.go:231", after := #[], guard := none }, { dst := some 88, op := Op.load 30 (Operand.tmp 87), type := 30, pos := "ref.go:231", after := #[{ on := 0, ground := Ground.data }], guard := none }, { dst := some 89, op := Op.fieldAddr 33 (Operand.tmp 1) 3, type := 0, pos := "ref.go:231", after := #[], guard := none }, { dst := some 90, op := Op.load 22 (Operand.tmp 89), type := 22, pos := "ref.go:231", after := #[{ on := 2, ground := Ground.data }], guard := none }, { dst := some 91, op := Op.move (Operand.tmp 7), type := 3, pos := "ref.go:231", after := #[], guard := none }, { dst := some 92, op := Op.indexAddr 22 (Operand.tmp 90) (Operand.tmp 91), type := 0, pos := "ref.go:231", after := #[{ on := 3, ground := Ground.data }, { on := 4, ground := Ground.data }], guard := none }, { dst := some 93, op := Op.load 3 (Operand.tmp 92), type := 3, pos := "ref.go:231", after := #[{ on := 5, ground := Ground.data }], guard := none }, { dst := some 94, op := Op.indexAddr 30 (Operand.tmp 88) (Operand.tmp 93), type := 0, pos := "ref.go:231", after := #[{ on := 1, ground := Ground.data }, { on := 6, ground := Ground.data }], guard := none }, { dst := some 95, op := Op.load 45 (Operand.tmp 94), type := 45, pos := "ref.go:231", after := #[{ on := 7, ground := Ground.data }], guard := none }, { dst := some 8, op := Op.alloc 45, type := 0, pos := "ref.go:231", after := #[], guard := none }, { dst := none, op := Op.store 45 (Operand.tmp 8) (Operand.tmp 95), type := 0, pos := "ref.go:231", after := #[{ on := 9, ground := Ground.data }, { on := 8, ground := Ground.data }, { on := 0, ground := Ground.phase }, { on := 1, ground := Ground.phase }, { on := 2, ground := Ground.phase }, { on := 3, ground := Ground.phase }, { on := 4, ground := Ground.phase }, { on := 5, ground := Ground.phase }, { on := 6, ground := Ground.phase }, { on := 7, ground := Ground.phase }, { on := 8, ground := Ground.phase }, { on := 9, ground := Ground.phase }], guard := none }] true).wp Tryz.prog Q a0 W := by
 have hn : ([some 87, some 88, some 89, some 90, some 91, some 92, some 93, some 94, some 95, some 8, none] : List (Option Nat)).Pairwise (fun x y => x = none ∨ x ≠ y) := of_decide_eq_true (by kernel_rfl)
 have hkz : (k : Int) < (kn : Int) := by omega
 have hmz : (m : Int) < (n : Int) := by omega
 refine wp_region_inv (by kernel_rfl) (fun listed a w => Slots a0 [some 87, some 88, some 89, some 90, some 91, some 92, some 93, some 94, some 95, some 8, none] [some (.pointer (some ⟨b1, 0, none⟩)), some (.slice (some ⟨vb, vo, none⟩) n vc), some (.pointer (some ⟨b1, 3, none⟩)), some (.slice (some ⟨kb, ko, none⟩) kn kc), some (.int .i64 (k : Int)), some (.pointer (some ⟨kb, ko + k, none⟩)), some (.int .i64 (m : Int)), some (.pointer (some ⟨vb, vo + m * 4, none⟩)), some (seatV r x y kk), none, none] listed a ∧ Below W.heap.size W w ∧ (listed.getD 9 false = true → ∃ g, a.tmps[8]? = some (.pointer (some ⟨g, 0, none⟩)) ∧ W.heap.size ≤ g ∧ Box w g 45 (if listed.getD 10 false = true then #[.int .i64 r, .int .i64 x, .int .i64 y, .int .i64 kk] else #[.int .i64 0, .int .i64 0, .int .i64 0, .int .i64 0]))) (by kernel_rfl) ?_ ?_ ?_
 ·exact ⟨Slots.start _ _ _ _, (Below.refl _ W).drew, fun h => (by rw [start_false] at h; cases h)⟩
 ·intro listed a w i' hsl hilt hl hd hcl ⟨hS, hb, hG⟩
  have hsz : Hid (a.tmps.size = 136) := hS.size.trans hsz0
  have hls : i' < listed.size := by rw [hsl]; exact hilt
  have hcase : i' = 0 ∨ i' = 1 ∨ i' = 2 ∨ i' = 3 ∨ i' = 4 ∨ i' = 5 ∨ i' = 6 ∨ i' = 7 ∨ i' = 8 ∨ i' = 9 ∨ i' = 10 := by
   have : i' < 11 := hilt
   omega
  rcases hcase with rfl | rfl | rfl | rfl | rfl | rfl | rfl | rfl | rfl | rfl | rfl
  ·
   refine wpOp_step rfl ?_
   intro K hK
   have q1 : a.tmps[1]? = some (.pointer (some ⟨b1, 0, none⟩)) := (hS.keep 1 (of_decide_eq_true (by kernel_rfl))).trans h1
   have ml := (hV0.next hb).lt
   have m0 := (hV0.next hb).cell 0 _ rfl
   go_simp
   exact hK _ _ ⟨hS.put hn 0 87 _ rfl (by rw [hsz0]; omega) (fun u h => by injection h with h; injection h with h; exact h.symm), hb, fun h => (by
    rw [getD_set hls, if_neg (by omega)] at h
    obtain ⟨g, t1, t2, t3⟩ := hG h
    exact ⟨g, by simpa using t1, t2, by rw [show (listed.setIfInBounds 0 true).getD 10 false = listed.getD 10 false by rw [getD_set hls, if_neg (by omega)]]; exact t3⟩)⟩
  ·
   refine wpOp_step rfl ?_
   intro K hK
   have q87 : a.tmps[87]? = some (.pointer (some ⟨b1, 0, none⟩)) := hS.val 0 87 _ (hd 0 (of_decide_eq_true (by kernel_rfl))) rfl rfl
   have m0 := (hV0.next hb).cell 0 _ rfl
   go_simp
   exact hK _ _ ⟨hS.put hn 1 88 _ rfl (by rw [hsz0]; omega) (fun u h => by injection h with h; injection h with h; exact h.symm), hb, fun h => (by
    rw [getD_set hls, if_neg (by omega)] at h
    obtain ⟨g, t1, t2, t3⟩ := hG h
    exact ⟨g, by simpa using t1, t2, by rw [show (listed.setIfInBounds 1 true).getD 10 false = listed.getD 10 false by rw [getD_set hls, if_neg (by omega)]]; exact t3⟩)⟩
  ·
   refine wpOp_step rfl ?_
   intro K hK
   have q1 : a.tmps[1]? = some (.pointer (some ⟨b1, 0, none⟩)) := (hS.keep 1 (of_decide_eq_true (by kernel_rfl))).trans h1
   have ml := (hV0.next hb).lt
   have m0 := (hV0.next hb).cell 0 _ rfl
   go_simp
   exact hK _ _ ⟨hS.put hn 2 89 _ rfl (by rw [hsz0]; omega) (fun u h => by injection h with h; injection h with h; exact h.symm), hb, fun h => (by
    rw [getD_set hls, if_neg (by omega)] at h
    obtain ⟨g, t1, t2, t3⟩ := hG h
    exact ⟨g, by simpa using t1, t2, by rw [show (listed.setIfInBounds 2 true).getD 10 false = listed.getD 10 false by rw [getD_set hls, if_neg (by omega)]]; exact t3⟩)⟩
  ·
   refine wpOp_step rfl ?_
   intro K hK
   have q89 : a.tmps[89]? = some (.pointer (some ⟨b1, 3, none⟩)) := hS.val 2 89 _ (hd 2 (of_decide_eq_true (by kernel_rfl))) rfl rfl
   have m0 := (hV0.next hb).cell 3 _ rfl
   go_simp
   exact hK _ _ ⟨hS.put hn 3 90 _ rfl (by rw [hsz0]; omega) (fun u h => by injection h with h; injection h with h; exact h.symm), hb, fun h => (by
    rw [getD_set hls, if_neg (by omega)] at h
    obtain ⟨g, t1, t2, t3⟩ := hG h
    exact ⟨g, by simpa using t1, t2, by rw [show (listed.setIfInBounds 3 true).getD 10 false = listed.getD 10 false by rw [getD_set hls, if_neg (by omega)]]; exact t3⟩)⟩
  ·
   refine wpOp_step rfl ?_
   intro K hK
   have q7 : a.tmps[7]? = some (.int .i64 (k : Int)) := (hS.keep 7 (of_decide_eq_true (by kernel_rfl))).trans h7
   go_simp
   exact hK _ _ ⟨hS.put hn 4 91 _ rfl (by rw [hsz0]; omega) (fun u h => by injection h with h; injection h with h; exact h.symm), hb, fun h => (by
    rw [getD_set hls, if_neg (by omega)] at h
    obtain ⟨g, t1, t2, t3⟩ := hG h
    exact ⟨g, by simpa using t1, t2, by rw [show (listed.setIfInBounds 4 true).getD 10 false = listed.getD 10 false by rw [getD_set hls, if_neg (by omega)]]; exact t3⟩)⟩
  ·
   refine wpOp_step rfl ?_
   intro K hK
   have q90 : a.tmps[90]? = some (.slice (some ⟨kb, ko, none⟩) kn kc) := hS.val 3 90 _ (hd 3 (of_decide_eq_true (by kernel_rfl))) rfl rfl
   have q91 : a.tmps[91]? = some (.int .i64 (k : Int)) := hS.val 4 91 _ (hd 4 (of_decide_eq_true (by kernel_rfl))) rfl rfl
   go_simp
   exact hK _ _ ⟨hS.put hn 5 92 _ rfl (by rw [hsz0]; omega) (fun u h => by injection h with h; injection h with h; exact h.symm), hb, fun h => (by
    rw [getD_set hls, if_neg (by omega)] at h
    obtain ⟨g, t1, t2, t3⟩ := hG h
    exact ⟨g, by simpa using t1, t2, by rw [show (listed.setIfInBounds 5 true).getD 10 false = listed.getD 10 false by rw [getD_set hls, if_neg (by omega)]]; exact t3⟩)⟩
  ·
   refine wpOp_step rfl ?_
   intro K hK
   have q92 : a.tmps[92]? = some (.pointer (some ⟨kb, ko + k, none⟩)) := hS.val 5 92 _ (hd 5 (of_decide_eq_true (by kernel_rfl))) rfl rfl
   have m0 := (hb.cell (p := ⟨kb, ko + k, none⟩) hkl0).trans hk0
   go_simp
   exact hK _ _ ⟨hS.put hn 6 93 _ rfl (by rw [hsz0]; omega) (fun u h => by injection h with h; injection h with h; exact h.symm), hb, fun h => (by
    rw [getD_set hls, if_neg (by omega)] at h
    obtain ⟨g, t1, t2, t3⟩ := hG h
    exact ⟨g, by simpa using t1, t2, by rw [show (listed.setIfInBounds 6 true).getD 10 false = listed.getD 10 false by rw [getD_set hls, if_neg (by omega)]]; exact t3⟩)⟩
  ·
   refine wpOp_step rfl ?_
   intro K hK
   have q88 : a.tmps[88]? = some (.slice (some ⟨vb, vo, none⟩) n vc) := hS.val 1 88 _ (hd 1 (of_decide_eq_true (by kernel_rfl))) rfl rfl
   have q93 : a.tmps[93]? = some (.int .i64 (m : Int)) := hS.val 6 93 _ (hd 6 (of_decide_eq_true (by kernel_rfl))) rfl rfl
   go_simp
   exact hK _ _ ⟨hS.put hn 7 94 _ rfl (by rw [hsz0]; omega) (fun u h => by injection h with h; injection h with h; exact h.symm), hb, fun h => (by
    rw [getD_set hls, if_neg (by omega)] at h
    obtain ⟨g, t1, t2, t3⟩ := hG h
    exact ⟨g, by simpa using t1, t2, by rw [show (listed.setIfInBounds 7 true).getD 10 false = listed.getD 10 false by rw [getD_set hls, if_neg (by omega)]]; exact t3⟩)⟩
  ·
   refine wpOp_step rfl ?_
   intro K hK
   have q94 : a.tmps[94]? = some (.pointer (some ⟨vb, vo + m * 4, none⟩)) := hS.val 7 94 _ (hd 7 (of_decide_eq_true (by kernel_rfl))) rfl rfl
   obtain ⟨_, m0, m1, m2, m3⟩ := hT0.next hb
   go_simp
   exact hK _ _ ⟨hS.put hn 8 95 _ rfl (by rw [hsz0]; omega) (fun u h => by injection h with h; injection h with h; exact h.symm), hb, fun h => (by
    rw [getD_set hls, if_neg (by omega)] at h
    obtain ⟨g, t1, t2, t3⟩ := hG h
    exact ⟨g, by simpa using t1, t2, by rw [show (listed.setIfInBounds 8 true).getD 10 false = listed.getD 10 false by rw [getD_set hls, if_neg (by omega)]]; exact t3⟩)⟩
  ·
   refine wpOp_step rfl ?_
   intro K hK
   have y10 : listed.getD 10 false = false := by
    cases h : listed.getD 10 false with
    | false => rfl
    | true => have := hcl 10 9 h (of_decide_eq_true (by kernel_rfl)); rw [hl] at this; cases this
   have hs2 : 8 < a.tmps.size := by rw [hsz.out]; omega
   go_simp
   refine hK _ _ ⟨hS.put hn 9 8 _ rfl (by rw [hsz0]; omega) (fun u h => by cases h), hb.alloc hb.size _, fun _ => ⟨w.heap.size, by simp [hs2], hb.size, ?_⟩⟩
   rw [show (listed.setIfInBounds 9 true).getD 10 false = false by rw [getD_set hls, if_neg (by omega), y10], if_neg (by decide)]
   exact Box.fresh w _ _
  ·
   refine wpOp_step rfl ?_
   intro K hK
   have q95 : a.tmps[95]? = some (seatV r x y kk) := hS.val 8 95 _ (hd 8 (of_decide_eq_true (by kernel_rfl))) rfl rfl
   obtain ⟨g, q8, hge, hB⟩ := hG (hd 9 (of_decide_eq_true (by kernel_rfl)))
   rw [hl, if_neg (by decide)] at hB
   have r0 := hB.cell 0 _ rfl
   have f0 := hB.frozen 0
   have r1 := hB.cell 1 _ rfl
   have f1 := hB.frozen 1
   have r2 := hB.cell 2 _ rfl
   have f2 := hB.frozen 2
   have r3 := hB.cell 3 _ rfl
   have f3 := hB.frozen 3
   have bl := hB.lt
   go_simp
   refine hK _ _ ⟨hS.skip 10 rfl, Below.setCell (Below.setCell (Below.setCell (Below.setCell hb hge _) hge _) hge _) hge _, fun _ => ⟨g, q8, hge, ?_⟩⟩
   rw [getD_set hls, if_pos rfl, if_pos rfl]
   exact (((hB.set 0 (.int .i64 r)).set 1 (.int .i64 x)).set 2 (.int .i64 y)).set 3 (.int .i64 kk)
 ·intro listed a w hall ⟨hS, hb, hG⟩
  obtain ⟨g, t1, t2, t3⟩ := hG (hall 9 (by decide))
  rw [if_pos (hall 10 (by decide))] at t3
  have hf := hS.frame [(87, .pointer (some ⟨b1, 0, none⟩)), (88, .slice (some ⟨vb, vo, none⟩) n vc), (89, .pointer (some ⟨b1, 3, none⟩)), (90, .slice (some ⟨kb, ko, none⟩) kn kc), (91, .int .i64 (k : Int)), (92, .pointer (some ⟨kb, ko + k, none⟩)), (93, .int .i64 (m : Int)), (94, .pointer (some ⟨vb, vo + m * 4, none⟩)), (95, seatV r x y kk), (8, .pointer (some ⟨g, 0, none⟩))] rfl (of_decide_eq_true (by kernel_rfl)) (by
   simp only [List.map_cons, List.map_nil, List.all_cons, List.all_nil, hsz0]; rfl) (by
   intro p hp
   simp only [List.mem_cons, List.not_mem_nil, or_false] at hp
   rcases hp with rfl | rfl | rfl | rfl | rfl | rfl | rfl | rfl | rfl | rfl
   ·exact hS.val 0 87 _ (hall 0 (by decide)) rfl rfl
   ·exact hS.val 1 88 _ (hall 1 (by decide)) rfl rfl
   ·exact hS.val 2 89 _ (hall 2 (by decide)) rfl rfl
   ·exact hS.val 3 90 _ (hall 3 (by decide)) rfl rfl
   ·exact hS.val 4 91 _ (hall 4 (by decide)) rfl rfl
   ·exact hS.val 5 92 _ (hall 5 (by decide)) rfl rfl
   ·exact hS.val 6 93 _ (hall 6 (by decide)) rfl rfl
   ·exact hS.val 7 94 _ (hall 7 (by decide)) rfl rfl
   ·exact hS.val 8 95 _ (hall 8 (by decide)) rfl rfl
   ·exact t1)
  rw [hf]
  exact hQ w g hb t3.seatAt
end Go.Proofs.YtgpkdjhllekihaaGreatDoor.Ven

namespace Go.Proofs.YtgpkdjhllekihaaGreatDoor.Ven
set_option linter.unusedVariables false
set_option maxRecDepth 100000
open Go.RowKit Go.Shelf

theorem wpAny_at {P : Program} {md : Region.Mode} {ops : Array Oper} {Q : Exit → Act → World → Prop} {fuel : Nat} {listed listed' : Array Bool} {a a' : Act} {w : World} (hl : listed = listed') (ha : a = a') (h : wpAny P md ops Q fuel listed' a' w) : wpAny P md ops Q fuel listed a w := by
 subst hl; subst ha; exact h

/-- The operations of the statement. -/
def ops25_6n : Array Oper := #[{ dst := some 33, op := Op.buildSlice 22 0 #[], type := 22, pos := "ref.go:214", after := #[], guard := none }, { dst := some 34, op := Op.move (Operand.tmp 0), type := 22, pos := "ref.go:214", after := #[], guard := none }, { dst := some 35, op := Op.move (Operand.tmp 5), type := 3, pos := "ref.go:214", after := #[], guard := none }, { dst := some 36, op := Op.slice 22 (Operand.tmp 34) none (some (Operand.tmp 35)) none, type := 22, pos := "ref.go:214", after := #[{ on := 1, ground := Ground.data }, { on := 2, ground := Ground.data }], guard := none }, { dst := some 37, op := Op.call { callee := Callee.builtin Builtin.append, args := #[Operand.tmp 33, Operand.tmp 36], argTypes := #[22, 22] }, type := 22, pos := "ref.go:214", after := #[{ on := 0, ground := Ground.data }, { on := 3, ground := Ground.data }], guard := none }, { dst := some 38, op := Op.move (Operand.tmp 1), type := 3, pos := "ref.go:214", after := #[], guard := none }, { dst := some 39, op := Op.buildSlice 22 1 #[(0, Operand.tmp 38)], type := 22, pos := "ref.go:214", after := #[{ on := 5, ground := Ground.data }], guard := none }, { dst := some 40, op := Op.call { callee := Callee.builtin Builtin.append, args := #[Operand.tmp 37, Operand.tmp 39], argTypes := #[22, 22] }, type := 22, pos := "ref.go:214", after := #[{ on := 4, ground := Ground.data }, { on := 6, ground := Ground.data }, { on := 4, ground := Ground.chain }], guard := none }, { dst := some 41, op := Op.move (Operand.tmp 0), type := 22, pos := "ref.go:214", after := #[], guard := none }, { dst := some 42, op := Op.move (Operand.tmp 5), type := 3, pos := "ref.go:214", after := #[], guard := none }, { dst := some 43, op := Op.slice 22 (Operand.tmp 41) (some (Operand.tmp 42)) none none, type := 22, pos := "ref.go:214", after := #[{ on := 8, ground := Ground.data }, { on := 9, ground := Ground.data }], guard := none }, { dst := some 44, op := Op.call { callee := Callee.builtin Builtin.append, args := #[Operand.tmp 40, Operand.tmp 43], argTypes := #[22, 22] }, type := 22, pos := "ref.go:214", after := #[{ on := 7, ground := Ground.data }, { on := 10, ground := Ground.data }, { on := 7, ground := Ground.chain }], guard := none }, { dst := some 4, op := Op.assign (Operand.tmp 44), type := 22, pos := "ref.go:214", after := #[{ on := 11, ground := Ground.data }, { on := 11, ground := Ground.chain }, { on := 0, ground := Ground.phase }, { on := 1, ground := Ground.phase }, { on := 2, ground := Ground.phase }, { on := 3, ground := Ground.phase }, { on := 4, ground := Ground.phase }, { on := 5, ground := Ground.phase }, { on := 6, ground := Ground.phase }, { on := 7, ground := Ground.phase }, { on := 8, ground := Ground.phase }, { on := 9, ground := Ground.phase }, { on := 10, ground := Ground.phase }, { on := 11, ground := Ground.phase }], guard := none }]
set_option maxRecDepth 100000 in
set_option maxHeartbeats 32000000 in
theorem region25_6n (Q : Exit → Act → World → Prop) (hQp : ∀ c a a' w, Q (.panic c) a w → Q (.panic c) a' w) (z : Int) (W0 : World)
  (A2 A3 A4 A6 A7 A8 A9 B0 B1 B2 B3 B4 B5 B6 B7 B8 B9 C0 C1 C2 C3 C4 C5 C6 C7 C8 C9 D0 D1 D2 D3 D4 D5 D6 D7 D8 D9 E0 E1 E2 E3 E4 : Value)
  (hQ : ∀ W' e0 g7 a8 c8, Below W0.heap.size W0 W' → W'.ownsRow W0.heap.size 3 1 (.slice a8 1 c8) 1 (intC z) → Q .normal { tmps := (.slice none 0 0::.int .i64 z::A2::A3::.slice a8 1 c8::.int .i64 0::A6::A7::A8::A9::B0::B1::B2::B3::B4::B5::B6::B7::B8::B9::C0::C1::C2::C3::C4::C5::C6::C7::C8::C9::D0::D1::D2::.slice (some ⟨e0, 0, none⟩) 0 0::.slice none 0 0::.int .i64 0::.slice none 0 0::.slice (some ⟨e0, 0, none⟩) 0 0::.int .i64 z::.slice (some ⟨g7, 0, none⟩) 1 1::.slice a8 1 c8::.slice none 0 0::.int .i64 0::.slice none 0 0::.slice a8 1 c8::[]).toArray, defers := [] } W') :
  (Code.region 6 #[{ dst := some 33, op := Op.buildSlice 22 0 #[], type := 22, pos := "ref.go:214", after := #[], guard := none }, { dst := some 34, op := Op.move (Operand.tmp 0), type := 22, pos := "ref.go:214", after := #[], guard := none }, { dst := some 35, op := Op.move (Operand.tmp 5), type := 3, pos := "ref.go:214", after := #[], guard := none }, { dst := some 36, op := Op.slice 22 (Operand.tmp 34) none (some (Operand.tmp 35)) none, type := 22, pos := "ref.go:214", after := #[{ on := 1, ground := Ground.data }, { on := 2, ground := Ground.data }], guard := none }, { dst := some 37, op := Op.call { callee := Callee.builtin Builtin.append, args := #[Operand.tmp 33, Operand.tmp 36], argTypes := #[22, 22] }, type := 22, pos := "ref.go:214", after := #[{ on := 0, ground := Ground.data }, { on := 3, ground := Ground.data }], guard := none }, { dst := some 38, op := Op.move (Operand.tmp 1), type := 3, pos := "ref.go:214", after := #[], guard := none }, { dst := some 39, op := Op.buildSlice 22 1 #[(0, Operand.tmp 38)], type := 22, pos := "ref.go:214", after := #[{ on := 5, ground := Ground.data }], guard := none }, { dst := some 40, op := Op.call { callee := Callee.builtin Builtin.append, args := #[Operand.tmp 37, Operand.tmp 39], argTypes := #[22, 22] }, type := 22, pos := "ref.go:214", after := #[{ on := 4, ground := Ground.data }, { on := 6, ground := Ground.data }, { on := 4, ground := Ground.chain }], guard := none }, { dst := some 41, op := Op.move (Operand.tmp 0), type := 22, pos := "ref.go:214", after := #[], guard := none }, { dst := some 42, op := Op.move (Operand.tmp 5), type := 3, pos := "ref.go:214", after := #[], guard := none }, { dst := some 43, op := Op.slice 22 (Operand.tmp 41) (some (Operand.tmp 42)) none none, type := 22, pos := "ref.go:214", after := #[{ on := 8, ground := Ground.data }, { on := 9, ground := Ground.data }], guard := none }, { dst := some 44, op := Op.call { callee := Callee.builtin Builtin.append, args := #[Operand.tmp 40, Operand.tmp 43], argTypes := #[22, 22] }, type := 22, pos := "ref.go:214", after := #[{ on := 7, ground := Ground.data }, { on := 10, ground := Ground.data }, { on := 7, ground := Ground.chain }], guard := none }, { dst := some 4, op := Op.assign (Operand.tmp 44), type := 22, pos := "ref.go:214", after := #[{ on := 11, ground := Ground.data }, { on := 11, ground := Ground.chain }, { on := 0, ground := Ground.phase }, { on := 1, ground := Ground.phase }, { on := 2, ground := Ground.phase }, { on := 3, ground := Ground.phase }, { on := 4, ground := Ground.phase }, { on := 5, ground := Ground.phase }, { on := 6, ground := Ground.phase }, { on := 7, ground := Ground.phase }, { on := 8, ground := Ground.phase }, { on := 9, ground := Ground.phase }, { on := 10, ground := Ground.phase }, { on := 11, ground := Ground.phase }], guard := none }] true).wp Tryz.prog Q { tmps := (.slice none 0 0::.int .i64 z::A2::A3::A4::.int .i64 0::A6::A7::A8::A9::B0::B1::B2::B3::B4::B5::B6::B7::B8::B9::C0::C1::C2::C3::C4::C5::C6::C7::C8::C9::D0::D1::D2::D3::D4::D5::D6::D7::D8::D9::E0::E1::E2::E3::E4::[]).toArray, defers := [] } W0 := by
 obtain ⟨i0, hi, hz0, hz1, hz2⟩ := info3
 obtain ⟨W, hWd⟩ : ∃ W, W = W0.drew := ⟨_, rfl⟩
 have hszd : W.heap.size = W0.heap.size := by rw [hWd]; rfl
 have hbd : Below W0.heap.size W0 W := by rw [hWd]; exact (Below.refl _ W0).drew
 have HQ : Hid (∀ W' e0 g7 a8 c8, Below W.heap.size W W' → W'.ownsRow W.heap.size 3 1 (.slice a8 1 c8) 1 (intC z) → Q .normal { tmps := (.slice none 0 0::.int .i64 z::A2::A3::.slice a8 1 c8::.int .i64 0::A6::A7::A8::A9::B0::B1::B2::B3::B4::B5::B6::B7::B8::B9::C0::C1::C2::C3::C4::C5::C6::C7::C8::C9::D0::D1::D2::.slice (some ⟨e0, 0, none⟩) 0 0::.slice none 0 0::.int .i64 0::.slice none 0 0::.slice (some ⟨e0, 0, none⟩) 0 0::.int .i64 z::.slice (some ⟨g7, 0, none⟩) 1 1::.slice a8 1 c8::.slice none 0 0::.int .i64 0::.slice none 0 0::.slice a8 1 c8::[]).toArray, defers := [] } W') := by
  show ∀ W' e0 g7 a8 c8, Below W.heap.size W W' → W'.ownsRow W.heap.size 3 1 (.slice a8 1 c8) 1 (intC z) → Q .normal { tmps := (.slice none 0 0::.int .i64 z::A2::A3::.slice a8 1 c8::.int .i64 0::A6::A7::A8::A9::B0::B1::B2::B3::B4::B5::B6::B7::B8::B9::C0::C1::C2::C3::C4::C5::C6::C7::C8::C9::D0::D1::D2::.slice (some ⟨e0, 0, none⟩) 0 0::.slice none 0 0::.int .i64 0::.slice none 0 0::.slice (some ⟨e0, 0, none⟩) 0 0::.int .i64 z::.slice (some ⟨g7, 0, none⟩) 1 1::.slice a8 1 c8::.slice none 0 0::.int .i64 0::.slice none 0 0::.slice a8 1 c8::[]).toArray, defers := [] } W'
  rw [hszd]
  exact fun W' e0 g7 a8 c8 h1 h2 => hQ W' e0 g7 a8 c8 (hbd.trans h1) h2
 have HQp : Hid (∀ c a a' w, Q (.panic c) a w → Q (.panic c) a' w) := hQp
 clear hQ hQp  hbd
 have s0_4_6_7_11 : ∀ W', Below W.heap.size W W' → ∀ e0, ∀ g7, ∀ a8 c8, W'.ownsRow W.heap.size 3 1 (.slice a8 1 c8) 1 (intC z) → wpAny Tryz.prog .any ops25_6n Q 0 (true::true::true::true::true::true::true::true::true::true::true::true::true::[]).toArray { tmps := (.slice none 0 0::.int .i64 z::A2::A3::.slice a8 1 c8::.int .i64 0::A6::A7::A8::A9::B0::B1::B2::B3::B4::B5::B6::B7::B8::B9::C0::C1::C2::C3::C4::C5::C6::C7::C8::C9::D0::D1::D2::.slice (some ⟨e0, 0, none⟩) 0 0::.slice none 0 0::.int .i64 0::.slice none 0 0::.slice (some ⟨e0, 0, none⟩) 0 0::.int .i64 z::.slice (some ⟨g7, 0, none⟩) 1 1::.slice a8 1 c8::.slice none 0 0::.int .i64 0::.slice none 0 0::.slice a8 1 c8::[]).toArray, defers := [] } W' := by
  delta ops25_6n
  intro W' hb e0 g7 a8 c8 hown
  refine wpAny_done (by kernel_rfl) ?_ _
  exact HQ.out W' e0 g7 a8 c8 hb hown
 have s0_4_6_7 : ∀ W', Below W.heap.size W W' → ∀ e0, ∀ g7, ∀ a8 c8, W'.ownsRow W.heap.size 3 1 (.slice a8 1 c8) 1 (intC z) → wpAny Tryz.prog .any ops25_6n Q 2 (true::true::true::true::true::true::true::true::true::true::true::false::false::[]).toArray { tmps := (.slice none 0 0::.int .i64 z::A2::A3::A4::.int .i64 0::A6::A7::A8::A9::B0::B1::B2::B3::B4::B5::B6::B7::B8::B9::C0::C1::C2::C3::C4::C5::C6::C7::C8::C9::D0::D1::D2::.slice (some ⟨e0, 0, none⟩) 0 0::.slice none 0 0::.int .i64 0::.slice none 0 0::.slice (some ⟨e0, 0, none⟩) 0 0::.int .i64 z::.slice (some ⟨g7, 0, none⟩) 1 1::.slice a8 1 c8::.slice none 0 0::.int .i64 0::.slice none 0 0::E4::[]).toArray, defers := [] } W' := by
  delta ops25_6n
  intro W' hb e0 g7 a8 c8 hown
  refine wpAny_ready (rs := [11]) (by kernel_rfl) (by simp) ?_
  refine AllReady.cons rfl (fun K hK => ?_) (AllReady.nil)
  ·
   refine step_append_no rfl 22 (by decide) rfl _ _ rfl _ _ _ rfl (row_cap hown) rfl ?_
   refine hK _ _ ?_
   clear hK K
   refine wpAny_at (listed' := (true::true::true::true::true::true::true::true::true::true::true::true::false::[]).toArray) (a' := { tmps := (.slice none 0 0::.int .i64 z::A2::A3::A4::.int .i64 0::A6::A7::A8::A9::B0::B1::B2::B3::B4::B5::B6::B7::B8::B9::C0::C1::C2::C3::C4::C5::C6::C7::C8::C9::D0::D1::D2::.slice (some ⟨e0, 0, none⟩) 0 0::.slice none 0 0::.int .i64 0::.slice none 0 0::.slice (some ⟨e0, 0, none⟩) 0 0::.int .i64 z::.slice (some ⟨g7, 0, none⟩) 1 1::.slice a8 1 c8::.slice none 0 0::.int .i64 0::.slice none 0 0::.slice a8 1 c8::[]).toArray, defers := [] }) (by kernel_rfl) (by kernel_rfl) ?_
   refine wpAny_take (i := 12) (v := .slice a8 1 c8) rfl (by kernel_rfl) (by kernel_rfl) (by kernel_rfl) (fun _ _ _ h => HQp.out _ _ _ _ h) (Or.inl ⟨by rfl, by intro w; go_simp⟩) ?_
   refine wpAny_at (listed' := (true::true::true::true::true::true::true::true::true::true::true::true::true::[]).toArray) (a' := { tmps := (.slice none 0 0::.int .i64 z::A2::A3::.slice a8 1 c8::.int .i64 0::A6::A7::A8::A9::B0::B1::B2::B3::B4::B5::B6::B7::B8::B9::C0::C1::C2::C3::C4::C5::C6::C7::C8::C9::D0::D1::D2::.slice (some ⟨e0, 0, none⟩) 0 0::.slice none 0 0::.int .i64 0::.slice none 0 0::.slice (some ⟨e0, 0, none⟩) 0 0::.int .i64 z::.slice (some ⟨g7, 0, none⟩) 1 1::.slice a8 1 c8::.slice none 0 0::.int .i64 0::.slice none 0 0::.slice a8 1 c8::[]).toArray, defers := [] }) (by kernel_rfl) (by kernel_rfl) ?_
   exact s0_4_6_7_11 W' hb e0 g7 a8 c8 (hown)
 have s0_4_6 : ∀ W', Below W.heap.size W W' → ∀ e0, ∀ g7, W'.ownsRow W.heap.size 3 1 (.slice (some ⟨e0, 0, none⟩) 0 0) 0 [] → Box W' g7 3 #[.int .i64 z] → (Value.slice (some ⟨e0, 0, none⟩) 0 0).ownBlock ≠ some g7 → wpAny Tryz.prog .any ops25_6n Q 3 (true::true::true::true::true::true::true::false::true::true::true::false::false::[]).toArray { tmps := (.slice none 0 0::.int .i64 z::A2::A3::A4::.int .i64 0::A6::A7::A8::A9::B0::B1::B2::B3::B4::B5::B6::B7::B8::B9::C0::C1::C2::C3::C4::C5::C6::C7::C8::C9::D0::D1::D2::.slice (some ⟨e0, 0, none⟩) 0 0::.slice none 0 0::.int .i64 0::.slice none 0 0::.slice (some ⟨e0, 0, none⟩) 0 0::.int .i64 z::.slice (some ⟨g7, 0, none⟩) 1 1::E0::.slice none 0 0::.int .i64 0::.slice none 0 0::E4::[]).toArray, defers := [] } W' := by
  delta ops25_6n
  intro W' hb e0 g7 hown hS hap
  refine wpAny_ready (rs := [7]) (by kernel_rfl) (by simp) ?_
  refine AllReady.cons rfl (fun K hK => ?_) (AllReady.nil)
  ·
   refine step_append_own_at rfl _ _ 22 rfl W.heap.size 3 i0 (.int .i64 0) 1 8 Tryz.underlying22 hi hz0 hz1 hz2 rfl (by omega) _ _ _ rfl hown ⟨g7, 0, none⟩ 1 1 (intC z) rfl rfl (fun q u hq => by rw [Addr.add_lit, Nat.zero_add]; exact hS.cell q u (by show (intC z).toArray[q]? = some u; rw [List.getElem?_toArray]; exact hq)) (fun u hu => int_one [z] u (by simpa using hu)) (by unfold maxLen; omega) (by omega) hb.size ?_
   intro v2 w2 hown2 hgr hloc
   rw [Nat.zero_add, List.nil_append] at hown2
   obtain ⟨a8, c8, rfl⟩ := row_slice hown2
   refine hK _ _ ?_
   clear hK K
   refine wpAny_at (listed' := (true::true::true::true::true::true::true::true::true::true::true::false::false::[]).toArray) (a' := { tmps := (.slice none 0 0::.int .i64 z::A2::A3::A4::.int .i64 0::A6::A7::A8::A9::B0::B1::B2::B3::B4::B5::B6::B7::B8::B9::C0::C1::C2::C3::C4::C5::C6::C7::C8::C9::D0::D1::D2::.slice (some ⟨e0, 0, none⟩) 0 0::.slice none 0 0::.int .i64 0::.slice none 0 0::.slice (some ⟨e0, 0, none⟩) 0 0::.int .i64 z::.slice (some ⟨g7, 0, none⟩) 1 1::.slice a8 1 c8::.slice none 0 0::.int .i64 0::.slice none 0 0::E4::[]).toArray, defers := [] }) (by kernel_rfl) (by kernel_rfl) ?_
   exact s0_4_6_7 w2 (hb.grown hgr hb.size (row_high hown)) e0 g7 a8 c8 (hown2)
 have s0_4 : ∀ W', Below W.heap.size W W' → ∀ e0, W'.ownsRow W.heap.size 3 1 (.slice (some ⟨e0, 0, none⟩) 0 0) 0 [] → wpAny Tryz.prog .any ops25_6n Q 4 (true::true::true::true::true::true::false::false::true::true::true::false::false::[]).toArray { tmps := (.slice none 0 0::.int .i64 z::A2::A3::A4::.int .i64 0::A6::A7::A8::A9::B0::B1::B2::B3::B4::B5::B6::B7::B8::B9::C0::C1::C2::C3::C4::C5::C6::C7::C8::C9::D0::D1::D2::.slice (some ⟨e0, 0, none⟩) 0 0::.slice none 0 0::.int .i64 0::.slice none 0 0::.slice (some ⟨e0, 0, none⟩) 0 0::.int .i64 z::D9::E0::.slice none 0 0::.int .i64 0::.slice none 0 0::E4::[]).toArray, defers := [] } W' := by
  delta ops25_6n
  intro W' hb e0 hown
  refine wpAny_ready (rs := [6]) (by kernel_rfl) (by simp) ?_
  refine AllReady.cons rfl (fun K hK => ?_) (AllReady.nil)
  ·
   go_simp
   refine hK _ _ ?_
   clear hK K
   refine wpAny_at (listed' := (true::true::true::true::true::true::true::false::true::true::true::false::false::[]).toArray) (a' := { tmps := (.slice none 0 0::.int .i64 z::A2::A3::A4::.int .i64 0::A6::A7::A8::A9::B0::B1::B2::B3::B4::B5::B6::B7::B8::B9::C0::C1::C2::C3::C4::C5::C6::C7::C8::C9::D0::D1::D2::.slice (some ⟨e0, 0, none⟩) 0 0::.slice none 0 0::.int .i64 0::.slice none 0 0::.slice (some ⟨e0, 0, none⟩) 0 0::.int .i64 z::.slice (some ⟨W'.heap.size, 0, none⟩) 1 1::E0::.slice none 0 0::.int .i64 0::.slice none 0 0::E4::[]).toArray, defers := [] }) (by kernel_rfl) (by kernel_rfl) ?_
   exact s0_4_6 _ (hb.alloc hb.size _) e0 _ (row_next hown (below_al W' (.cells #[.int .i64 z] 3))) (Box.fresh W' 3 #[.int .i64 z]) (row_ne_size hown)
 have s0_6 : ∀ W', Below W.heap.size W W' → ∀ e0, ∀ g7, W'.ownsRow W.heap.size 3 1 (.slice (some ⟨e0, 0, none⟩) 0 0) 0 [] → Box W' g7 3 #[.int .i64 z] → (Value.slice (some ⟨e0, 0, none⟩) 0 0).ownBlock ≠ some g7 → wpAny Tryz.prog .any ops25_6n Q 4 (true::true::true::true::false::true::true::false::true::true::true::false::false::[]).toArray { tmps := (.slice none 0 0::.int .i64 z::A2::A3::A4::.int .i64 0::A6::A7::A8::A9::B0::B1::B2::B3::B4::B5::B6::B7::B8::B9::C0::C1::C2::C3::C4::C5::C6::C7::C8::C9::D0::D1::D2::.slice (some ⟨e0, 0, none⟩) 0 0::.slice none 0 0::.int .i64 0::.slice none 0 0::D7::.int .i64 z::.slice (some ⟨g7, 0, none⟩) 1 1::E0::.slice none 0 0::.int .i64 0::.slice none 0 0::E4::[]).toArray, defers := [] } W' := by
  delta ops25_6n
  intro W' hb e0 g7 hown hS hap
  refine wpAny_ready (rs := [4]) (by kernel_rfl) (by simp) ?_
  refine AllReady.cons rfl (fun K hK => ?_) (AllReady.nil)
  ·
   refine step_append_no rfl 22 (by decide) rfl _ _ rfl _ _ _ rfl (row_cap hown) rfl ?_
   refine hK _ _ ?_
   clear hK K
   refine wpAny_at (listed' := (true::true::true::true::true::true::true::false::true::true::true::false::false::[]).toArray) (a' := { tmps := (.slice none 0 0::.int .i64 z::A2::A3::A4::.int .i64 0::A6::A7::A8::A9::B0::B1::B2::B3::B4::B5::B6::B7::B8::B9::C0::C1::C2::C3::C4::C5::C6::C7::C8::C9::D0::D1::D2::.slice (some ⟨e0, 0, none⟩) 0 0::.slice none 0 0::.int .i64 0::.slice none 0 0::.slice (some ⟨e0, 0, none⟩) 0 0::.int .i64 z::.slice (some ⟨g7, 0, none⟩) 1 1::E0::.slice none 0 0::.int .i64 0::.slice none 0 0::E4::[]).toArray, defers := [] }) (by kernel_rfl) (by kernel_rfl) ?_
   exact s0_4_6 W' hb e0 g7 (hown) (hS) (hap)
 have s0 : ∀ W', Below W.heap.size W W' → ∀ e0, W'.ownsRow W.heap.size 3 1 (.slice (some ⟨e0, 0, none⟩) 0 0) 0 [] → wpAny Tryz.prog .any ops25_6n Q 5 (true::true::true::true::false::true::false::false::true::true::true::false::false::[]).toArray { tmps := (.slice none 0 0::.int .i64 z::A2::A3::A4::.int .i64 0::A6::A7::A8::A9::B0::B1::B2::B3::B4::B5::B6::B7::B8::B9::C0::C1::C2::C3::C4::C5::C6::C7::C8::C9::D0::D1::D2::.slice (some ⟨e0, 0, none⟩) 0 0::.slice none 0 0::.int .i64 0::.slice none 0 0::D7::.int .i64 z::D9::E0::.slice none 0 0::.int .i64 0::.slice none 0 0::E4::[]).toArray, defers := [] } W' := by
  delta ops25_6n
  intro W' hb e0 hown
  refine wpAny_ready (rs := [4, 6]) (by kernel_rfl) (by simp) ?_
  refine AllReady.cons rfl (fun K hK => ?_) (AllReady.cons rfl (fun K hK => ?_) (AllReady.nil))
  ·
   refine step_append_no rfl 22 (by decide) rfl _ _ rfl _ _ _ rfl (row_cap hown) rfl ?_
   refine hK _ _ ?_
   clear hK K
   refine wpAny_at (listed' := (true::true::true::true::true::true::false::false::true::true::true::false::false::[]).toArray) (a' := { tmps := (.slice none 0 0::.int .i64 z::A2::A3::A4::.int .i64 0::A6::A7::A8::A9::B0::B1::B2::B3::B4::B5::B6::B7::B8::B9::C0::C1::C2::C3::C4::C5::C6::C7::C8::C9::D0::D1::D2::.slice (some ⟨e0, 0, none⟩) 0 0::.slice none 0 0::.int .i64 0::.slice none 0 0::.slice (some ⟨e0, 0, none⟩) 0 0::.int .i64 z::D9::E0::.slice none 0 0::.int .i64 0::.slice none 0 0::E4::[]).toArray, defers := [] }) (by kernel_rfl) (by kernel_rfl) ?_
   exact s0_4 W' hb e0 (hown)
  ·
   go_simp
   refine hK _ _ ?_
   clear hK K
   refine wpAny_at (listed' := (true::true::true::true::false::true::true::false::true::true::true::false::false::[]).toArray) (a' := { tmps := (.slice none 0 0::.int .i64 z::A2::A3::A4::.int .i64 0::A6::A7::A8::A9::B0::B1::B2::B3::B4::B5::B6::B7::B8::B9::C0::C1::C2::C3::C4::C5::C6::C7::C8::C9::D0::D1::D2::.slice (some ⟨e0, 0, none⟩) 0 0::.slice none 0 0::.int .i64 0::.slice none 0 0::D7::.int .i64 z::.slice (some ⟨W'.heap.size, 0, none⟩) 1 1::E0::.slice none 0 0::.int .i64 0::.slice none 0 0::E4::[]).toArray, defers := [] }) (by kernel_rfl) (by kernel_rfl) ?_
   exact s0_6 _ (hb.alloc hb.size _) e0 _ (row_next hown (below_al W' (.cells #[.int .i64 z] 3))) (Box.fresh W' 3 #[.int .i64 z]) (row_ne_size hown)
 have s6 : ∀ W', Below W.heap.size W W' → ∀ g7, Box W' g7 3 #[.int .i64 z] → wpAny Tryz.prog .any ops25_6n Q 5 (false::true::true::true::false::true::true::false::true::true::true::false::false::[]).toArray { tmps := (.slice none 0 0::.int .i64 z::A2::A3::A4::.int .i64 0::A6::A7::A8::A9::B0::B1::B2::B3::B4::B5::B6::B7::B8::B9::C0::C1::C2::C3::C4::C5::C6::C7::C8::C9::D0::D1::D2::D3::.slice none 0 0::.int .i64 0::.slice none 0 0::D7::.int .i64 z::.slice (some ⟨g7, 0, none⟩) 1 1::E0::.slice none 0 0::.int .i64 0::.slice none 0 0::E4::[]).toArray, defers := [] } W' := by
  delta ops25_6n
  intro W' hb g7 hS
  refine wpAny_ready (rs := [0]) (by kernel_rfl) (by simp) ?_
  refine AllReady.cons rfl (fun K hK => ?_) (AllReady.nil)
  ·
   go_simp
   refine hK _ _ ?_
   clear hK K
   refine wpAny_at (listed' := (true::true::true::true::false::true::true::false::true::true::true::false::false::[]).toArray) (a' := { tmps := (.slice none 0 0::.int .i64 z::A2::A3::A4::.int .i64 0::A6::A7::A8::A9::B0::B1::B2::B3::B4::B5::B6::B7::B8::B9::C0::C1::C2::C3::C4::C5::C6::C7::C8::C9::D0::D1::D2::.slice (some ⟨W'.heap.size, 0, none⟩) 0 0::.slice none 0 0::.int .i64 0::.slice none 0 0::D7::.int .i64 z::.slice (some ⟨g7, 0, none⟩) 1 1::E0::.slice none 0 0::.int .i64 0::.slice none 0 0::E4::[]).toArray, defers := [] }) (by kernel_rfl) (by kernel_rfl) ?_
   exact s0_6 _ (hb.alloc hb.size _) _ g7 (⟨rfl, .inr ⟨_, 0, #[], rfl, hb.size, Box.fresh W' 3 #[], Nat.le_refl _, by decide, rfl, rfl⟩⟩) (hS.next (below_al W' (.cells #[] 3))) (by intro hc; have := hS.lt; simp [Value.ownBlock] at hc; omega)
 have s : ∀ W', Below W.heap.size W W' → wpAny Tryz.prog .any ops25_6n Q 6 (false::true::true::true::false::true::false::false::true::true::true::false::false::[]).toArray { tmps := (.slice none 0 0::.int .i64 z::A2::A3::A4::.int .i64 0::A6::A7::A8::A9::B0::B1::B2::B3::B4::B5::B6::B7::B8::B9::C0::C1::C2::C3::C4::C5::C6::C7::C8::C9::D0::D1::D2::D3::.slice none 0 0::.int .i64 0::.slice none 0 0::D7::.int .i64 z::D9::E0::.slice none 0 0::.int .i64 0::.slice none 0 0::E4::[]).toArray, defers := [] } W' := by
  delta ops25_6n
  intro W' hb 
  refine wpAny_ready (rs := [0, 6]) (by kernel_rfl) (by simp) ?_
  refine AllReady.cons rfl (fun K hK => ?_) (AllReady.cons rfl (fun K hK => ?_) (AllReady.nil))
  ·
   go_simp
   refine hK _ _ ?_
   clear hK K
   refine wpAny_at (listed' := (true::true::true::true::false::true::false::false::true::true::true::false::false::[]).toArray) (a' := { tmps := (.slice none 0 0::.int .i64 z::A2::A3::A4::.int .i64 0::A6::A7::A8::A9::B0::B1::B2::B3::B4::B5::B6::B7::B8::B9::C0::C1::C2::C3::C4::C5::C6::C7::C8::C9::D0::D1::D2::.slice (some ⟨W'.heap.size, 0, none⟩) 0 0::.slice none 0 0::.int .i64 0::.slice none 0 0::D7::.int .i64 z::D9::E0::.slice none 0 0::.int .i64 0::.slice none 0 0::E4::[]).toArray, defers := [] }) (by kernel_rfl) (by kernel_rfl) ?_
   exact s0 _ (hb.alloc hb.size _) _ (⟨rfl, .inr ⟨_, 0, #[], rfl, hb.size, Box.fresh W' 3 #[], Nat.le_refl _, by decide, rfl, rfl⟩⟩)
  ·
   go_simp
   refine hK _ _ ?_
   clear hK K
   refine wpAny_at (listed' := (false::true::true::true::false::true::true::false::true::true::true::false::false::[]).toArray) (a' := { tmps := (.slice none 0 0::.int .i64 z::A2::A3::A4::.int .i64 0::A6::A7::A8::A9::B0::B1::B2::B3::B4::B5::B6::B7::B8::B9::C0::C1::C2::C3::C4::C5::C6::C7::C8::C9::D0::D1::D2::D3::.slice none 0 0::.int .i64 0::.slice none 0 0::D7::.int .i64 z::.slice (some ⟨W'.heap.size, 0, none⟩) 1 1::E0::.slice none 0 0::.int .i64 0::.slice none 0 0::E4::[]).toArray, defers := [] }) (by kernel_rfl) (by kernel_rfl) ?_
   exact s6 _ (hb.alloc hb.size _) _ (Box.fresh W' 3 #[.int .i64 z])
 refine wp_region_any (by kernel_rfl) ?_
 change wpAny _ _ _ _ _ _ _ (World.drew _)
 rw [← hWd]
 refine wpAny_take (i := 1) (v := .slice none 0 0) rfl (by kernel_rfl) (by kernel_rfl) (by kernel_rfl) (fun _ _ _ h => HQp.out _ _ _ _ h) (Or.inl ⟨by rfl, by intro w; go_simp⟩) ?_
 refine wpAny_take (i := 2) (v := .int .i64 0) rfl (by kernel_rfl) (by kernel_rfl) (by kernel_rfl) (fun _ _ _ h => HQp.out _ _ _ _ h) (Or.inl ⟨by rfl, by intro w; go_simp⟩) ?_
 refine wpAny_take (i := 3) (v := .slice none 0 0) rfl (by kernel_rfl) (by kernel_rfl) (by kernel_rfl) (fun _ _ _ h => HQp.out _ _ _ _ h) (Or.inl ⟨by rfl, by intro w; go_simp⟩) ?_
 refine wpAny_take (i := 5) (v := .int .i64 z) rfl (by kernel_rfl) (by kernel_rfl) (by kernel_rfl) (fun _ _ _ h => HQp.out _ _ _ _ h) (Or.inl ⟨by rfl, by intro w; go_simp⟩) ?_
 refine wpAny_take (i := 8) (v := .slice none 0 0) rfl (by kernel_rfl) (by kernel_rfl) (by kernel_rfl) (fun _ _ _ h => HQp.out _ _ _ _ h) (Or.inl ⟨by rfl, by intro w; go_simp⟩) ?_
 refine wpAny_take (i := 9) (v := .int .i64 0) rfl (by kernel_rfl) (by kernel_rfl) (by kernel_rfl) (fun _ _ _ h => HQp.out _ _ _ _ h) (Or.inl ⟨by rfl, by intro w; go_simp⟩) ?_
 refine wpAny_take (i := 10) (v := .slice none 0 0) rfl (by kernel_rfl) (by kernel_rfl) (by kernel_rfl) (fun _ _ _ h => HQp.out _ _ _ _ h) (Or.inl ⟨by rfl, by intro w; go_simp⟩) ?_
 refine wpAny_at (listed' := (false::true::true::true::false::true::false::false::true::true::true::false::false::[]).toArray) (a' := { tmps := (.slice none 0 0::.int .i64 z::A2::A3::A4::.int .i64 0::A6::A7::A8::A9::B0::B1::B2::B3::B4::B5::B6::B7::B8::B9::C0::C1::C2::C3::C4::C5::C6::C7::C8::C9::D0::D1::D2::D3::.slice none 0 0::.int .i64 0::.slice none 0 0::D7::.int .i64 z::D9::E0::.slice none 0 0::.int .i64 0::.slice none 0 0::E4::[]).toArray, defers := [] }) (by kernel_rfl) (by kernel_rfl) ?_
 exact s W (Below.refl _ W)
end Go.Proofs.YtgpkdjhllekihaaGreatDoor.Ven

namespace Go.Proofs.YtgpkdjhllekihaaGreatDoor.Ven
set_option linter.unusedVariables false
set_option maxRecDepth 100000
open Go.RowKit Go.Shelf

theorem wpAny_atS {P : Program} {md : Region.Mode} {ops : Array Oper} {Q : Exit → Act → World → Prop} {fuel : Nat} {listed listed' : Array Bool} {a a' : Act} {w : World} (hl : listed = listed') (ha : a = a') (h : wpAny P md ops Q fuel listed' a' w) : wpAny P md ops Q fuel listed a w := by
 subst hl; subst ha; exact h

/-- The operations of the statement. -/
def ops25_6s : Array Oper := #[{ dst := some 33, op := Op.buildSlice 22 0 #[], type := 22, pos := "ref.go:214", after := #[], guard := none }, { dst := some 34, op := Op.move (Operand.tmp 0), type := 22, pos := "ref.go:214", after := #[], guard := none }, { dst := some 35, op := Op.move (Operand.tmp 5), type := 3, pos := "ref.go:214", after := #[], guard := none }, { dst := some 36, op := Op.slice 22 (Operand.tmp 34) none (some (Operand.tmp 35)) none, type := 22, pos := "ref.go:214", after := #[{ on := 1, ground := Ground.data }, { on := 2, ground := Ground.data }], guard := none }, { dst := some 37, op := Op.call { callee := Callee.builtin Builtin.append, args := #[Operand.tmp 33, Operand.tmp 36], argTypes := #[22, 22] }, type := 22, pos := "ref.go:214", after := #[{ on := 0, ground := Ground.data }, { on := 3, ground := Ground.data }], guard := none }, { dst := some 38, op := Op.move (Operand.tmp 1), type := 3, pos := "ref.go:214", after := #[], guard := none }, { dst := some 39, op := Op.buildSlice 22 1 #[(0, Operand.tmp 38)], type := 22, pos := "ref.go:214", after := #[{ on := 5, ground := Ground.data }], guard := none }, { dst := some 40, op := Op.call { callee := Callee.builtin Builtin.append, args := #[Operand.tmp 37, Operand.tmp 39], argTypes := #[22, 22] }, type := 22, pos := "ref.go:214", after := #[{ on := 4, ground := Ground.data }, { on := 6, ground := Ground.data }, { on := 4, ground := Ground.chain }], guard := none }, { dst := some 41, op := Op.move (Operand.tmp 0), type := 22, pos := "ref.go:214", after := #[], guard := none }, { dst := some 42, op := Op.move (Operand.tmp 5), type := 3, pos := "ref.go:214", after := #[], guard := none }, { dst := some 43, op := Op.slice 22 (Operand.tmp 41) (some (Operand.tmp 42)) none none, type := 22, pos := "ref.go:214", after := #[{ on := 8, ground := Ground.data }, { on := 9, ground := Ground.data }], guard := none }, { dst := some 44, op := Op.call { callee := Callee.builtin Builtin.append, args := #[Operand.tmp 40, Operand.tmp 43], argTypes := #[22, 22] }, type := 22, pos := "ref.go:214", after := #[{ on := 7, ground := Ground.data }, { on := 10, ground := Ground.data }, { on := 7, ground := Ground.chain }], guard := none }, { dst := some 4, op := Op.assign (Operand.tmp 44), type := 22, pos := "ref.go:214", after := #[{ on := 11, ground := Ground.data }, { on := 11, ground := Ground.chain }, { on := 0, ground := Ground.phase }, { on := 1, ground := Ground.phase }, { on := 2, ground := Ground.phase }, { on := 3, ground := Ground.phase }, { on := 4, ground := Ground.phase }, { on := 5, ground := Ground.phase }, { on := 6, ground := Ground.phase }, { on := 7, ground := Ground.phase }, { on := 8, ground := Ground.phase }, { on := 9, ground := Ground.phase }, { on := 10, ground := Ground.phase }, { on := 11, ground := Ground.phase }], guard := none }]
set_option maxRecDepth 100000 in
set_option maxHeartbeats 32000000 in
theorem region25_6s (Q : Exit → Act → World → Prop) (hQp : ∀ c a a' w, Q (.panic c) a w → Q (.panic c) a' w) (l : List Int) (b off c j : Nat) (hj : j ≤ l.length) (hlc : l.length ≤ c) (hl30 : l.length ≤ 5000) (hcm : c ≤ 9223372036854775807) (A : Addr) (hA : (if c = j then some (⟨b, off, none⟩ : Addr) else some ⟨b, off + j, none⟩) = some A) (z : Int) (W0 : World) (hC0 : Cells 1 intC W0 b off l)
  (A2 A3 A4 A6 A7 A8 A9 B0 B1 B2 B3 B4 B5 B6 B7 B8 B9 C0 C1 C2 C3 C4 C5 C6 C7 C8 C9 D0 D1 D2 D3 D4 D5 D6 D7 D8 D9 E0 E1 E2 E3 E4 : Value)
  (hQ : ∀ W' e0 a5 c5 g7 a8 c8 a13 c13, Below W0.heap.size W0 W' → W'.ownsRow W0.heap.size 3 1 (.slice a13 (l.length + 1) c13) (l.length + 1) ((l.take j).flatMap intC ++ intC z ++ (l.drop j).flatMap intC) → Q .normal { tmps := (.slice (some ⟨b, off, none⟩) l.length c::.int .i64 z::A2::A3::.slice a13 (l.length + 1) c13::.int .i64 (j : Int)::A6::A7::A8::A9::B0::B1::B2::B3::B4::B5::B6::B7::B8::B9::C0::C1::C2::C3::C4::C5::C6::C7::C8::C9::D0::D1::D2::.slice (some ⟨e0, 0, none⟩) 0 0::.slice (some ⟨b, off, none⟩) l.length c::.int .i64 (j : Int)::.slice (some ⟨b, off, none⟩) j c::.slice a5 j c5::.int .i64 z::.slice (some ⟨g7, 0, none⟩) 1 1::.slice a8 (j + 1) c8::.slice (some ⟨b, off, none⟩) l.length c::.int .i64 (j : Int)::.slice (some A) (l.length - j) (c - j)::.slice a13 (l.length + 1) c13::[]).toArray, defers := [] } W') :
  (Code.region 6 #[{ dst := some 33, op := Op.buildSlice 22 0 #[], type := 22, pos := "ref.go:214", after := #[], guard := none }, { dst := some 34, op := Op.move (Operand.tmp 0), type := 22, pos := "ref.go:214", after := #[], guard := none }, { dst := some 35, op := Op.move (Operand.tmp 5), type := 3, pos := "ref.go:214", after := #[], guard := none }, { dst := some 36, op := Op.slice 22 (Operand.tmp 34) none (some (Operand.tmp 35)) none, type := 22, pos := "ref.go:214", after := #[{ on := 1, ground := Ground.data }, { on := 2, ground := Ground.data }], guard := none }, { dst := some 37, op := Op.call { callee := Callee.builtin Builtin.append, args := #[Operand.tmp 33, Operand.tmp 36], argTypes := #[22, 22] }, type := 22, pos := "ref.go:214", after := #[{ on := 0, ground := Ground.data }, { on := 3, ground := Ground.data }], guard := none }, { dst := some 38, op := Op.move (Operand.tmp 1), type := 3, pos := "ref.go:214", after := #[], guard := none }, { dst := some 39, op := Op.buildSlice 22 1 #[(0, Operand.tmp 38)], type := 22, pos := "ref.go:214", after := #[{ on := 5, ground := Ground.data }], guard := none }, { dst := some 40, op := Op.call { callee := Callee.builtin Builtin.append, args := #[Operand.tmp 37, Operand.tmp 39], argTypes := #[22, 22] }, type := 22, pos := "ref.go:214", after := #[{ on := 4, ground := Ground.data }, { on := 6, ground := Ground.data }, { on := 4, ground := Ground.chain }], guard := none }, { dst := some 41, op := Op.move (Operand.tmp 0), type := 22, pos := "ref.go:214", after := #[], guard := none }, { dst := some 42, op := Op.move (Operand.tmp 5), type := 3, pos := "ref.go:214", after := #[], guard := none }, { dst := some 43, op := Op.slice 22 (Operand.tmp 41) (some (Operand.tmp 42)) none none, type := 22, pos := "ref.go:214", after := #[{ on := 8, ground := Ground.data }, { on := 9, ground := Ground.data }], guard := none }, { dst := some 44, op := Op.call { callee := Callee.builtin Builtin.append, args := #[Operand.tmp 40, Operand.tmp 43], argTypes := #[22, 22] }, type := 22, pos := "ref.go:214", after := #[{ on := 7, ground := Ground.data }, { on := 10, ground := Ground.data }, { on := 7, ground := Ground.chain }], guard := none }, { dst := some 4, op := Op.assign (Operand.tmp 44), type := 22, pos := "ref.go:214", after := #[{ on := 11, ground := Ground.data }, { on := 11, ground := Ground.chain }, { on := 0, ground := Ground.phase }, { on := 1, ground := Ground.phase }, { on := 2, ground := Ground.phase }, { on := 3, ground := Ground.phase }, { on := 4, ground := Ground.phase }, { on := 5, ground := Ground.phase }, { on := 6, ground := Ground.phase }, { on := 7, ground := Ground.phase }, { on := 8, ground := Ground.phase }, { on := 9, ground := Ground.phase }, { on := 10, ground := Ground.phase }, { on := 11, ground := Ground.phase }], guard := none }] true).wp Tryz.prog Q { tmps := (.slice (some ⟨b, off, none⟩) l.length c::.int .i64 z::A2::A3::A4::.int .i64 (j : Int)::A6::A7::A8::A9::B0::B1::B2::B3::B4::B5::B6::B7::B8::B9::C0::C1::C2::C3::C4::C5::C6::C7::C8::C9::D0::D1::D2::D3::D4::D5::D6::D7::D8::D9::E0::E1::E2::E3::E4::[]).toArray, defers := [] } W0 := by
 obtain ⟨i0, hi, hz0, hz1, hz2⟩ := info3
 obtain ⟨W, hWd⟩ : ∃ W, W = W0.drew := ⟨_, rfl⟩
 have hszd : W.heap.size = W0.heap.size := by rw [hWd]; rfl
 have hbd : Below W0.heap.size W0 W := by rw [hWd]; exact (Below.refl _ W0).drew
 have hC := hC0.next hbd
 have hjz : (j : Int) ≤ (l.length : Int) := by omega
 have hjc : (j : Int) ≤ (c : Int) := by omega
 have hA2 : ∀ W', Below W.heap.size W W' → ∀ q u, ((l.drop j).flatMap intC)[q]? = some u → W'.cell? (A.add q) = some u := by
  intro W' hb q u hq
  by_cases hcj : c = j
  ·have hd : l.drop j = [] := List.drop_of_length_le (by omega)
   rw [hd] at hq; simp at hq
  ·rw [if_neg hcj] at hA
   injection hA with hA
   subst hA
   rw [Addr.add_lit]
   have := (hC.next hb).flat_dropG intC_len (by omega) hj q u hq
   simpa using this
 have HQ : Hid (∀ W' e0 a5 c5 g7 a8 c8 a13 c13, Below W.heap.size W W' → W'.ownsRow W.heap.size 3 1 (.slice a13 (l.length + 1) c13) (l.length + 1) ((l.take j).flatMap intC ++ intC z ++ (l.drop j).flatMap intC) → Q .normal { tmps := (.slice (some ⟨b, off, none⟩) l.length c::.int .i64 z::A2::A3::.slice a13 (l.length + 1) c13::.int .i64 (j : Int)::A6::A7::A8::A9::B0::B1::B2::B3::B4::B5::B6::B7::B8::B9::C0::C1::C2::C3::C4::C5::C6::C7::C8::C9::D0::D1::D2::.slice (some ⟨e0, 0, none⟩) 0 0::.slice (some ⟨b, off, none⟩) l.length c::.int .i64 (j : Int)::.slice (some ⟨b, off, none⟩) j c::.slice a5 j c5::.int .i64 z::.slice (some ⟨g7, 0, none⟩) 1 1::.slice a8 (j + 1) c8::.slice (some ⟨b, off, none⟩) l.length c::.int .i64 (j : Int)::.slice (some A) (l.length - j) (c - j)::.slice a13 (l.length + 1) c13::[]).toArray, defers := [] } W') := by
  show ∀ W' e0 a5 c5 g7 a8 c8 a13 c13, Below W.heap.size W W' → W'.ownsRow W.heap.size 3 1 (.slice a13 (l.length + 1) c13) (l.length + 1) ((l.take j).flatMap intC ++ intC z ++ (l.drop j).flatMap intC) → Q .normal { tmps := (.slice (some ⟨b, off, none⟩) l.length c::.int .i64 z::A2::A3::.slice a13 (l.length + 1) c13::.int .i64 (j : Int)::A6::A7::A8::A9::B0::B1::B2::B3::B4::B5::B6::B7::B8::B9::C0::C1::C2::C3::C4::C5::C6::C7::C8::C9::D0::D1::D2::.slice (some ⟨e0, 0, none⟩) 0 0::.slice (some ⟨b, off, none⟩) l.length c::.int .i64 (j : Int)::.slice (some ⟨b, off, none⟩) j c::.slice a5 j c5::.int .i64 z::.slice (some ⟨g7, 0, none⟩) 1 1::.slice a8 (j + 1) c8::.slice (some ⟨b, off, none⟩) l.length c::.int .i64 (j : Int)::.slice (some A) (l.length - j) (c - j)::.slice a13 (l.length + 1) c13::[]).toArray, defers := [] } W'
  rw [hszd]
  exact fun W' e0 a5 c5 g7 a8 c8 a13 c13 h1 h2 => hQ W' e0 a5 c5 g7 a8 c8 a13 c13 (hbd.trans h1) h2
 have HQp : Hid (∀ c a a' w, Q (.panic c) a w → Q (.panic c) a' w) := hQp
 clear hQ hQp hC0 hbd
 have s0_4_6_7_11 : ∀ W', Below W.heap.size W W' → ∀ e0, ∀ a5 c5, ∀ g7, ∀ a8 c8, ∀ a13 c13, W'.ownsRow W.heap.size 3 1 (.slice a13 (l.length + 1) c13) (l.length + 1) ((l.take j).flatMap intC ++ intC z ++ (l.drop j).flatMap intC) → wpAny Tryz.prog .any ops25_6s Q 0 (true::true::true::true::true::true::true::true::true::true::true::true::true::[]).toArray { tmps := (.slice (some ⟨b, off, none⟩) l.length c::.int .i64 z::A2::A3::.slice a13 (l.length + 1) c13::.int .i64 (j : Int)::A6::A7::A8::A9::B0::B1::B2::B3::B4::B5::B6::B7::B8::B9::C0::C1::C2::C3::C4::C5::C6::C7::C8::C9::D0::D1::D2::.slice (some ⟨e0, 0, none⟩) 0 0::.slice (some ⟨b, off, none⟩) l.length c::.int .i64 (j : Int)::.slice (some ⟨b, off, none⟩) j c::.slice a5 j c5::.int .i64 z::.slice (some ⟨g7, 0, none⟩) 1 1::.slice a8 (j + 1) c8::.slice (some ⟨b, off, none⟩) l.length c::.int .i64 (j : Int)::.slice (some A) (l.length - j) (c - j)::.slice a13 (l.length + 1) c13::[]).toArray, defers := [] } W' := by
  delta ops25_6s
  intro W' hb e0 a5 c5 g7 a8 c8 a13 c13 hown
  refine wpAny_done (by kernel_rfl) ?_ _
  exact HQ.out W' e0 a5 c5 g7 a8 c8 a13 c13 hb hown
 have s0_4_6_7 : ∀ W', Below W.heap.size W W' → ∀ e0, ∀ a5 c5, ∀ g7, ∀ a8 c8, W'.ownsRow W.heap.size 3 1 (.slice a8 (j + 1) c8) (j + 1) ((l.take j).flatMap intC ++ intC z) → wpAny Tryz.prog .any ops25_6s Q 2 (true::true::true::true::true::true::true::true::true::true::true::false::false::[]).toArray { tmps := (.slice (some ⟨b, off, none⟩) l.length c::.int .i64 z::A2::A3::A4::.int .i64 (j : Int)::A6::A7::A8::A9::B0::B1::B2::B3::B4::B5::B6::B7::B8::B9::C0::C1::C2::C3::C4::C5::C6::C7::C8::C9::D0::D1::D2::.slice (some ⟨e0, 0, none⟩) 0 0::.slice (some ⟨b, off, none⟩) l.length c::.int .i64 (j : Int)::.slice (some ⟨b, off, none⟩) j c::.slice a5 j c5::.int .i64 z::.slice (some ⟨g7, 0, none⟩) 1 1::.slice a8 (j + 1) c8::.slice (some ⟨b, off, none⟩) l.length c::.int .i64 (j : Int)::.slice (some A) (l.length - j) (c - j)::E4::[]).toArray, defers := [] } W' := by
  delta ops25_6s
  intro W' hb e0 a5 c5 g7 a8 c8 hown
  refine wpAny_ready (rs := [11]) (by kernel_rfl) (by simp) ?_
  refine AllReady.cons rfl (fun K hK => ?_) (AllReady.nil)
  ·
   refine step_append_own_at rfl _ _ 22 rfl W.heap.size 3 i0 (.int .i64 0) 1 8 Tryz.underlying22 hi hz0 hz1 hz2 rfl (by omega) _ _ _ rfl hown A (l.length - j) (c - j) ((l.drop j).flatMap intC) rfl (by rw [flat_len intC 1 intC_len, List.length_drop]) (fun q u hq => hA2 W' hb q u hq) (fun u hu => int_one _ u hu) (by unfold maxLen; omega) (by omega) hb.size ?_
   intro v2 w2 hown2 hgr hloc
   rw [show j + 1 + (l.length - j) = l.length + 1 by omega] at hown2
   obtain ⟨a13, c13, rfl⟩ := row_slice hown2
   refine hK _ _ ?_
   clear hK K
   refine wpAny_atS (listed' := (true::true::true::true::true::true::true::true::true::true::true::true::false::[]).toArray) (a' := { tmps := (.slice (some ⟨b, off, none⟩) l.length c::.int .i64 z::A2::A3::A4::.int .i64 (j : Int)::A6::A7::A8::A9::B0::B1::B2::B3::B4::B5::B6::B7::B8::B9::C0::C1::C2::C3::C4::C5::C6::C7::C8::C9::D0::D1::D2::.slice (some ⟨e0, 0, none⟩) 0 0::.slice (some ⟨b, off, none⟩) l.length c::.int .i64 (j : Int)::.slice (some ⟨b, off, none⟩) j c::.slice a5 j c5::.int .i64 z::.slice (some ⟨g7, 0, none⟩) 1 1::.slice a8 (j + 1) c8::.slice (some ⟨b, off, none⟩) l.length c::.int .i64 (j : Int)::.slice (some A) (l.length - j) (c - j)::.slice a13 (l.length + 1) c13::[]).toArray, defers := [] }) (by kernel_rfl) (by kernel_rfl) ?_
   refine wpAny_take (i := 12) (v := .slice a13 (l.length + 1) c13) rfl (by kernel_rfl) (by kernel_rfl) (by kernel_rfl) (fun _ _ _ h => HQp.out _ _ _ _ h) (Or.inl ⟨by rfl, by intro w; go_simp⟩) ?_
   refine wpAny_atS (listed' := (true::true::true::true::true::true::true::true::true::true::true::true::true::[]).toArray) (a' := { tmps := (.slice (some ⟨b, off, none⟩) l.length c::.int .i64 z::A2::A3::.slice a13 (l.length + 1) c13::.int .i64 (j : Int)::A6::A7::A8::A9::B0::B1::B2::B3::B4::B5::B6::B7::B8::B9::C0::C1::C2::C3::C4::C5::C6::C7::C8::C9::D0::D1::D2::.slice (some ⟨e0, 0, none⟩) 0 0::.slice (some ⟨b, off, none⟩) l.length c::.int .i64 (j : Int)::.slice (some ⟨b, off, none⟩) j c::.slice a5 j c5::.int .i64 z::.slice (some ⟨g7, 0, none⟩) 1 1::.slice a8 (j + 1) c8::.slice (some ⟨b, off, none⟩) l.length c::.int .i64 (j : Int)::.slice (some A) (l.length - j) (c - j)::.slice a13 (l.length + 1) c13::[]).toArray, defers := [] }) (by kernel_rfl) (by kernel_rfl) ?_
   exact s0_4_6_7_11 w2 (hb.grown hgr hb.size (row_high hown)) e0 a5 c5 g7 a8 c8 a13 c13 (hown2)
 have s0_4_6 : ∀ W', Below W.heap.size W W' → ∀ e0, ∀ a5 c5, ∀ g7, W'.ownsRow W.heap.size 3 1 (.slice a5 j c5) j ((l.take j).flatMap intC) → Box W' g7 3 #[.int .i64 z] → (Value.slice a5 j c5).ownBlock ≠ some g7 → wpAny Tryz.prog .any ops25_6s Q 3 (true::true::true::true::true::true::true::false::true::true::true::false::false::[]).toArray { tmps := (.slice (some ⟨b, off, none⟩) l.length c::.int .i64 z::A2::A3::A4::.int .i64 (j : Int)::A6::A7::A8::A9::B0::B1::B2::B3::B4::B5::B6::B7::B8::B9::C0::C1::C2::C3::C4::C5::C6::C7::C8::C9::D0::D1::D2::.slice (some ⟨e0, 0, none⟩) 0 0::.slice (some ⟨b, off, none⟩) l.length c::.int .i64 (j : Int)::.slice (some ⟨b, off, none⟩) j c::.slice a5 j c5::.int .i64 z::.slice (some ⟨g7, 0, none⟩) 1 1::E0::.slice (some ⟨b, off, none⟩) l.length c::.int .i64 (j : Int)::.slice (some A) (l.length - j) (c - j)::E4::[]).toArray, defers := [] } W' := by
  delta ops25_6s
  intro W' hb e0 a5 c5 g7 hown hS hap
  refine wpAny_ready (rs := [7]) (by kernel_rfl) (by simp) ?_
  refine AllReady.cons rfl (fun K hK => ?_) (AllReady.nil)
  ·
   refine step_append_own_at rfl _ _ 22 rfl W.heap.size 3 i0 (.int .i64 0) 1 8 Tryz.underlying22 hi hz0 hz1 hz2 rfl (by omega) _ _ _ rfl hown ⟨g7, 0, none⟩ 1 1 (intC z) rfl rfl (fun q u hq => by rw [Addr.add_lit, Nat.zero_add]; exact hS.cell q u (by show (intC z).toArray[q]? = some u; rw [List.getElem?_toArray]; exact hq)) (fun u hu => int_one [z] u (by simpa using hu)) (by unfold maxLen; omega) (by omega) hb.size ?_
   intro v2 w2 hown2 hgr hloc
   skip
   obtain ⟨a8, c8, rfl⟩ := row_slice hown2
   refine hK _ _ ?_
   clear hK K
   refine wpAny_atS (listed' := (true::true::true::true::true::true::true::true::true::true::true::false::false::[]).toArray) (a' := { tmps := (.slice (some ⟨b, off, none⟩) l.length c::.int .i64 z::A2::A3::A4::.int .i64 (j : Int)::A6::A7::A8::A9::B0::B1::B2::B3::B4::B5::B6::B7::B8::B9::C0::C1::C2::C3::C4::C5::C6::C7::C8::C9::D0::D1::D2::.slice (some ⟨e0, 0, none⟩) 0 0::.slice (some ⟨b, off, none⟩) l.length c::.int .i64 (j : Int)::.slice (some ⟨b, off, none⟩) j c::.slice a5 j c5::.int .i64 z::.slice (some ⟨g7, 0, none⟩) 1 1::.slice a8 (j + 1) c8::.slice (some ⟨b, off, none⟩) l.length c::.int .i64 (j : Int)::.slice (some A) (l.length - j) (c - j)::E4::[]).toArray, defers := [] }) (by kernel_rfl) (by kernel_rfl) ?_
   exact s0_4_6_7 w2 (hb.grown hgr hb.size (row_high hown)) e0 a5 c5 g7 a8 c8 (hown2)
 have s0_4 : ∀ W', Below W.heap.size W W' → ∀ e0, ∀ a5 c5, W'.ownsRow W.heap.size 3 1 (.slice a5 j c5) j ((l.take j).flatMap intC) → wpAny Tryz.prog .any ops25_6s Q 4 (true::true::true::true::true::true::false::false::true::true::true::false::false::[]).toArray { tmps := (.slice (some ⟨b, off, none⟩) l.length c::.int .i64 z::A2::A3::A4::.int .i64 (j : Int)::A6::A7::A8::A9::B0::B1::B2::B3::B4::B5::B6::B7::B8::B9::C0::C1::C2::C3::C4::C5::C6::C7::C8::C9::D0::D1::D2::.slice (some ⟨e0, 0, none⟩) 0 0::.slice (some ⟨b, off, none⟩) l.length c::.int .i64 (j : Int)::.slice (some ⟨b, off, none⟩) j c::.slice a5 j c5::.int .i64 z::D9::E0::.slice (some ⟨b, off, none⟩) l.length c::.int .i64 (j : Int)::.slice (some A) (l.length - j) (c - j)::E4::[]).toArray, defers := [] } W' := by
  delta ops25_6s
  intro W' hb e0 a5 c5 hown
  refine wpAny_ready (rs := [6]) (by kernel_rfl) (by simp) ?_
  refine AllReady.cons rfl (fun K hK => ?_) (AllReady.nil)
  ·
   go_simp
   refine hK _ _ ?_
   clear hK K
   refine wpAny_atS (listed' := (true::true::true::true::true::true::true::false::true::true::true::false::false::[]).toArray) (a' := { tmps := (.slice (some ⟨b, off, none⟩) l.length c::.int .i64 z::A2::A3::A4::.int .i64 (j : Int)::A6::A7::A8::A9::B0::B1::B2::B3::B4::B5::B6::B7::B8::B9::C0::C1::C2::C3::C4::C5::C6::C7::C8::C9::D0::D1::D2::.slice (some ⟨e0, 0, none⟩) 0 0::.slice (some ⟨b, off, none⟩) l.length c::.int .i64 (j : Int)::.slice (some ⟨b, off, none⟩) j c::.slice a5 j c5::.int .i64 z::.slice (some ⟨W'.heap.size, 0, none⟩) 1 1::E0::.slice (some ⟨b, off, none⟩) l.length c::.int .i64 (j : Int)::.slice (some A) (l.length - j) (c - j)::E4::[]).toArray, defers := [] }) (by kernel_rfl) (by kernel_rfl) ?_
   exact s0_4_6 _ (hb.alloc hb.size _) e0 a5 c5 _ (row_next hown (below_al W' (.cells #[.int .i64 z] 3))) (Box.fresh W' 3 #[.int .i64 z]) (row_ne_size hown)
 have s0_6 : ∀ W', Below W.heap.size W W' → ∀ e0, ∀ g7, W'.ownsRow W.heap.size 3 1 (.slice (some ⟨e0, 0, none⟩) 0 0) 0 [] → Box W' g7 3 #[.int .i64 z] → (Value.slice (some ⟨e0, 0, none⟩) 0 0).ownBlock ≠ some g7 → wpAny Tryz.prog .any ops25_6s Q 4 (true::true::true::true::false::true::true::false::true::true::true::false::false::[]).toArray { tmps := (.slice (some ⟨b, off, none⟩) l.length c::.int .i64 z::A2::A3::A4::.int .i64 (j : Int)::A6::A7::A8::A9::B0::B1::B2::B3::B4::B5::B6::B7::B8::B9::C0::C1::C2::C3::C4::C5::C6::C7::C8::C9::D0::D1::D2::.slice (some ⟨e0, 0, none⟩) 0 0::.slice (some ⟨b, off, none⟩) l.length c::.int .i64 (j : Int)::.slice (some ⟨b, off, none⟩) j c::D7::.int .i64 z::.slice (some ⟨g7, 0, none⟩) 1 1::E0::.slice (some ⟨b, off, none⟩) l.length c::.int .i64 (j : Int)::.slice (some A) (l.length - j) (c - j)::E4::[]).toArray, defers := [] } W' := by
  delta ops25_6s
  intro W' hb e0 g7 hown hS hap
  refine wpAny_ready (rs := [4]) (by kernel_rfl) (by simp) ?_
  refine AllReady.cons rfl (fun K hK => ?_) (AllReady.nil)
  ·
   refine step_append_own_at rfl _ _ 22 rfl W.heap.size 3 i0 (.int .i64 0) 1 8 Tryz.underlying22 hi hz0 hz1 hz2 rfl (by omega) _ _ _ rfl hown ⟨b, off, none⟩ j c ((l.take j).flatMap intC) rfl (by rw [flat_len intC 1 intC_len, List.length_take, Nat.min_eq_left hj]) (fun q u hq => by rw [Addr.add_lit]; exact (hC.next hb).flat_takeG intC_len (by omega) q u hq) (fun u hu => int_one _ u hu) (by unfold maxLen; omega) (by omega) hb.size ?_
   intro v2 w2 hown2 hgr hloc
   rw [Nat.zero_add, List.nil_append] at hown2
   obtain ⟨a5, c5, rfl⟩ := row_slice hown2
   refine hK _ _ ?_
   clear hK K
   refine wpAny_atS (listed' := (true::true::true::true::true::true::true::false::true::true::true::false::false::[]).toArray) (a' := { tmps := (.slice (some ⟨b, off, none⟩) l.length c::.int .i64 z::A2::A3::A4::.int .i64 (j : Int)::A6::A7::A8::A9::B0::B1::B2::B3::B4::B5::B6::B7::B8::B9::C0::C1::C2::C3::C4::C5::C6::C7::C8::C9::D0::D1::D2::.slice (some ⟨e0, 0, none⟩) 0 0::.slice (some ⟨b, off, none⟩) l.length c::.int .i64 (j : Int)::.slice (some ⟨b, off, none⟩) j c::.slice a5 j c5::.int .i64 z::.slice (some ⟨g7, 0, none⟩) 1 1::E0::.slice (some ⟨b, off, none⟩) l.length c::.int .i64 (j : Int)::.slice (some A) (l.length - j) (c - j)::E4::[]).toArray, defers := [] }) (by kernel_rfl) (by kernel_rfl) ?_
   exact s0_4_6 w2 (hb.grown hgr hb.size (row_high hown)) e0 a5 c5 g7 (hown2) (hS.grown hgr (fun h => hap h.symm)) (loc_ne hap hS.lt hloc)
 have s0 : ∀ W', Below W.heap.size W W' → ∀ e0, W'.ownsRow W.heap.size 3 1 (.slice (some ⟨e0, 0, none⟩) 0 0) 0 [] → wpAny Tryz.prog .any ops25_6s Q 5 (true::true::true::true::false::true::false::false::true::true::true::false::false::[]).toArray { tmps := (.slice (some ⟨b, off, none⟩) l.length c::.int .i64 z::A2::A3::A4::.int .i64 (j : Int)::A6::A7::A8::A9::B0::B1::B2::B3::B4::B5::B6::B7::B8::B9::C0::C1::C2::C3::C4::C5::C6::C7::C8::C9::D0::D1::D2::.slice (some ⟨e0, 0, none⟩) 0 0::.slice (some ⟨b, off, none⟩) l.length c::.int .i64 (j : Int)::.slice (some ⟨b, off, none⟩) j c::D7::.int .i64 z::D9::E0::.slice (some ⟨b, off, none⟩) l.length c::.int .i64 (j : Int)::.slice (some A) (l.length - j) (c - j)::E4::[]).toArray, defers := [] } W' := by
  delta ops25_6s
  intro W' hb e0 hown
  refine wpAny_ready (rs := [4, 6]) (by kernel_rfl) (by simp) ?_
  refine AllReady.cons rfl (fun K hK => ?_) (AllReady.cons rfl (fun K hK => ?_) (AllReady.nil))
  ·
   refine step_append_own_at rfl _ _ 22 rfl W.heap.size 3 i0 (.int .i64 0) 1 8 Tryz.underlying22 hi hz0 hz1 hz2 rfl (by omega) _ _ _ rfl hown ⟨b, off, none⟩ j c ((l.take j).flatMap intC) rfl (by rw [flat_len intC 1 intC_len, List.length_take, Nat.min_eq_left hj]) (fun q u hq => by rw [Addr.add_lit]; exact (hC.next hb).flat_takeG intC_len (by omega) q u hq) (fun u hu => int_one _ u hu) (by unfold maxLen; omega) (by omega) hb.size ?_
   intro v2 w2 hown2 hgr hloc
   rw [Nat.zero_add, List.nil_append] at hown2
   obtain ⟨a5, c5, rfl⟩ := row_slice hown2
   refine hK _ _ ?_
   clear hK K
   refine wpAny_atS (listed' := (true::true::true::true::true::true::false::false::true::true::true::false::false::[]).toArray) (a' := { tmps := (.slice (some ⟨b, off, none⟩) l.length c::.int .i64 z::A2::A3::A4::.int .i64 (j : Int)::A6::A7::A8::A9::B0::B1::B2::B3::B4::B5::B6::B7::B8::B9::C0::C1::C2::C3::C4::C5::C6::C7::C8::C9::D0::D1::D2::.slice (some ⟨e0, 0, none⟩) 0 0::.slice (some ⟨b, off, none⟩) l.length c::.int .i64 (j : Int)::.slice (some ⟨b, off, none⟩) j c::.slice a5 j c5::.int .i64 z::D9::E0::.slice (some ⟨b, off, none⟩) l.length c::.int .i64 (j : Int)::.slice (some A) (l.length - j) (c - j)::E4::[]).toArray, defers := [] }) (by kernel_rfl) (by kernel_rfl) ?_
   exact s0_4 w2 (hb.grown hgr hb.size (row_high hown)) e0 a5 c5 (hown2)
  ·
   go_simp
   refine hK _ _ ?_
   clear hK K
   refine wpAny_atS (listed' := (true::true::true::true::false::true::true::false::true::true::true::false::false::[]).toArray) (a' := { tmps := (.slice (some ⟨b, off, none⟩) l.length c::.int .i64 z::A2::A3::A4::.int .i64 (j : Int)::A6::A7::A8::A9::B0::B1::B2::B3::B4::B5::B6::B7::B8::B9::C0::C1::C2::C3::C4::C5::C6::C7::C8::C9::D0::D1::D2::.slice (some ⟨e0, 0, none⟩) 0 0::.slice (some ⟨b, off, none⟩) l.length c::.int .i64 (j : Int)::.slice (some ⟨b, off, none⟩) j c::D7::.int .i64 z::.slice (some ⟨W'.heap.size, 0, none⟩) 1 1::E0::.slice (some ⟨b, off, none⟩) l.length c::.int .i64 (j : Int)::.slice (some A) (l.length - j) (c - j)::E4::[]).toArray, defers := [] }) (by kernel_rfl) (by kernel_rfl) ?_
   exact s0_6 _ (hb.alloc hb.size _) e0 _ (row_next hown (below_al W' (.cells #[.int .i64 z] 3))) (Box.fresh W' 3 #[.int .i64 z]) (row_ne_size hown)
 have s6 : ∀ W', Below W.heap.size W W' → ∀ g7, Box W' g7 3 #[.int .i64 z] → wpAny Tryz.prog .any ops25_6s Q 5 (false::true::true::true::false::true::true::false::true::true::true::false::false::[]).toArray { tmps := (.slice (some ⟨b, off, none⟩) l.length c::.int .i64 z::A2::A3::A4::.int .i64 (j : Int)::A6::A7::A8::A9::B0::B1::B2::B3::B4::B5::B6::B7::B8::B9::C0::C1::C2::C3::C4::C5::C6::C7::C8::C9::D0::D1::D2::D3::.slice (some ⟨b, off, none⟩) l.length c::.int .i64 (j : Int)::.slice (some ⟨b, off, none⟩) j c::D7::.int .i64 z::.slice (some ⟨g7, 0, none⟩) 1 1::E0::.slice (some ⟨b, off, none⟩) l.length c::.int .i64 (j : Int)::.slice (some A) (l.length - j) (c - j)::E4::[]).toArray, defers := [] } W' := by
  delta ops25_6s
  intro W' hb g7 hS
  refine wpAny_ready (rs := [0]) (by kernel_rfl) (by simp) ?_
  refine AllReady.cons rfl (fun K hK => ?_) (AllReady.nil)
  ·
   go_simp
   refine hK _ _ ?_
   clear hK K
   refine wpAny_atS (listed' := (true::true::true::true::false::true::true::false::true::true::true::false::false::[]).toArray) (a' := { tmps := (.slice (some ⟨b, off, none⟩) l.length c::.int .i64 z::A2::A3::A4::.int .i64 (j : Int)::A6::A7::A8::A9::B0::B1::B2::B3::B4::B5::B6::B7::B8::B9::C0::C1::C2::C3::C4::C5::C6::C7::C8::C9::D0::D1::D2::.slice (some ⟨W'.heap.size, 0, none⟩) 0 0::.slice (some ⟨b, off, none⟩) l.length c::.int .i64 (j : Int)::.slice (some ⟨b, off, none⟩) j c::D7::.int .i64 z::.slice (some ⟨g7, 0, none⟩) 1 1::E0::.slice (some ⟨b, off, none⟩) l.length c::.int .i64 (j : Int)::.slice (some A) (l.length - j) (c - j)::E4::[]).toArray, defers := [] }) (by kernel_rfl) (by kernel_rfl) ?_
   exact s0_6 _ (hb.alloc hb.size _) _ g7 (⟨rfl, .inr ⟨_, 0, #[], rfl, hb.size, Box.fresh W' 3 #[], Nat.le_refl _, by decide, rfl, rfl⟩⟩) (hS.next (below_al W' (.cells #[] 3))) (by intro hc; have := hS.lt; simp [Value.ownBlock] at hc; omega)
 have s : ∀ W', Below W.heap.size W W' → wpAny Tryz.prog .any ops25_6s Q 6 (false::true::true::true::false::true::false::false::true::true::true::false::false::[]).toArray { tmps := (.slice (some ⟨b, off, none⟩) l.length c::.int .i64 z::A2::A3::A4::.int .i64 (j : Int)::A6::A7::A8::A9::B0::B1::B2::B3::B4::B5::B6::B7::B8::B9::C0::C1::C2::C3::C4::C5::C6::C7::C8::C9::D0::D1::D2::D3::.slice (some ⟨b, off, none⟩) l.length c::.int .i64 (j : Int)::.slice (some ⟨b, off, none⟩) j c::D7::.int .i64 z::D9::E0::.slice (some ⟨b, off, none⟩) l.length c::.int .i64 (j : Int)::.slice (some A) (l.length - j) (c - j)::E4::[]).toArray, defers := [] } W' := by
  delta ops25_6s
  intro W' hb 
  refine wpAny_ready (rs := [0, 6]) (by kernel_rfl) (by simp) ?_
  refine AllReady.cons rfl (fun K hK => ?_) (AllReady.cons rfl (fun K hK => ?_) (AllReady.nil))
  ·
   go_simp
   refine hK _ _ ?_
   clear hK K
   refine wpAny_atS (listed' := (true::true::true::true::false::true::false::false::true::true::true::false::false::[]).toArray) (a' := { tmps := (.slice (some ⟨b, off, none⟩) l.length c::.int .i64 z::A2::A3::A4::.int .i64 (j : Int)::A6::A7::A8::A9::B0::B1::B2::B3::B4::B5::B6::B7::B8::B9::C0::C1::C2::C3::C4::C5::C6::C7::C8::C9::D0::D1::D2::.slice (some ⟨W'.heap.size, 0, none⟩) 0 0::.slice (some ⟨b, off, none⟩) l.length c::.int .i64 (j : Int)::.slice (some ⟨b, off, none⟩) j c::D7::.int .i64 z::D9::E0::.slice (some ⟨b, off, none⟩) l.length c::.int .i64 (j : Int)::.slice (some A) (l.length - j) (c - j)::E4::[]).toArray, defers := [] }) (by kernel_rfl) (by kernel_rfl) ?_
   exact s0 _ (hb.alloc hb.size _) _ (⟨rfl, .inr ⟨_, 0, #[], rfl, hb.size, Box.fresh W' 3 #[], Nat.le_refl _, by decide, rfl, rfl⟩⟩)
  ·
   go_simp
   refine hK _ _ ?_
   clear hK K
   refine wpAny_atS (listed' := (false::true::true::true::false::true::true::false::true::true::true::false::false::[]).toArray) (a' := { tmps := (.slice (some ⟨b, off, none⟩) l.length c::.int .i64 z::A2::A3::A4::.int .i64 (j : Int)::A6::A7::A8::A9::B0::B1::B2::B3::B4::B5::B6::B7::B8::B9::C0::C1::C2::C3::C4::C5::C6::C7::C8::C9::D0::D1::D2::D3::.slice (some ⟨b, off, none⟩) l.length c::.int .i64 (j : Int)::.slice (some ⟨b, off, none⟩) j c::D7::.int .i64 z::.slice (some ⟨W'.heap.size, 0, none⟩) 1 1::E0::.slice (some ⟨b, off, none⟩) l.length c::.int .i64 (j : Int)::.slice (some A) (l.length - j) (c - j)::E4::[]).toArray, defers := [] }) (by kernel_rfl) (by kernel_rfl) ?_
   exact s6 _ (hb.alloc hb.size _) _ (Box.fresh W' 3 #[.int .i64 z])
 refine wp_region_any (by kernel_rfl) ?_
 change wpAny _ _ _ _ _ _ _ (World.drew _)
 rw [← hWd]
 refine wpAny_take (i := 1) (v := .slice (some ⟨b, off, none⟩) l.length c) rfl (by kernel_rfl) (by kernel_rfl) (by kernel_rfl) (fun _ _ _ h => HQp.out _ _ _ _ h) (Or.inl ⟨by rfl, by intro w; go_simp⟩) ?_
 refine wpAny_take (i := 2) (v := .int .i64 (j : Int)) rfl (by kernel_rfl) (by kernel_rfl) (by kernel_rfl) (fun _ _ _ h => HQp.out _ _ _ _ h) (Or.inl ⟨by rfl, by intro w; go_simp⟩) ?_
 refine wpAny_take (i := 3) (v := .slice (some ⟨b, off, none⟩) j c) rfl (by kernel_rfl) (by kernel_rfl) (by kernel_rfl) (fun _ _ _ h => HQp.out _ _ _ _ h) (Or.inl ⟨by rfl, by intro w; go_simp⟩) ?_
 refine wpAny_take (i := 5) (v := .int .i64 z) rfl (by kernel_rfl) (by kernel_rfl) (by kernel_rfl) (fun _ _ _ h => HQp.out _ _ _ _ h) (Or.inl ⟨by rfl, by intro w; go_simp⟩) ?_
 refine wpAny_take (i := 8) (v := .slice (some ⟨b, off, none⟩) l.length c) rfl (by kernel_rfl) (by kernel_rfl) (by kernel_rfl) (fun _ _ _ h => HQp.out _ _ _ _ h) (Or.inl ⟨by rfl, by intro w; go_simp⟩) ?_
 refine wpAny_take (i := 9) (v := .int .i64 (j : Int)) rfl (by kernel_rfl) (by kernel_rfl) (by kernel_rfl) (fun _ _ _ h => HQp.out _ _ _ _ h) (Or.inl ⟨by rfl, by intro w; go_simp⟩) ?_
 refine wpAny_take (i := 10) (v := .slice (some A) (l.length - j) (c - j)) rfl (by kernel_rfl) (by kernel_rfl) (by kernel_rfl) (fun _ _ _ h => HQp.out _ _ _ _ h) (Or.inl ⟨by rfl, by intro w; go_simp⟩) ?_
 refine wpAny_atS (listed' := (false::true::true::true::false::true::false::false::true::true::true::false::false::[]).toArray) (a' := { tmps := (.slice (some ⟨b, off, none⟩) l.length c::.int .i64 z::A2::A3::A4::.int .i64 (j : Int)::A6::A7::A8::A9::B0::B1::B2::B3::B4::B5::B6::B7::B8::B9::C0::C1::C2::C3::C4::C5::C6::C7::C8::C9::D0::D1::D2::D3::.slice (some ⟨b, off, none⟩) l.length c::.int .i64 (j : Int)::.slice (some ⟨b, off, none⟩) j c::D7::.int .i64 z::D9::E0::.slice (some ⟨b, off, none⟩) l.length c::.int .i64 (j : Int)::.slice (some A) (l.length - j) (c - j)::E4::[]).toArray, defers := [] }) (by kernel_rfl) (by kernel_rfl) ?_
 exact s W (Below.refl _ W)
end Go.Proofs.YtgpkdjhllekihaaGreatDoor.Ven

namespace Go.Proofs.YtgpkdjhllekihaaGreatDoor.Ven
set_option linter.unusedVariables false
set_option maxRecDepth 100000
open Go.RowKit Go.Shelf

/-! Into a row, at a place. -/
theorem ins_pairwise {α : Type} {R : α → α → Prop} {l : List α} (z : α) (k : Nat) (hr : l.Pairwise R) (h1 : ∀ a ∈ l.take k, R a z) (h2 : ∀ b ∈ l.drop k, R z b) : (l.take k ++ [z] ++ l.drop k).Pairwise R := by
 have hs : (l.take k ++ l.drop k).Pairwise R := by rw [List.take_append_drop]; exact hr
 rw [List.pairwise_append] at hs
 rw [List.pairwise_append]
 refine ⟨?_, hs.2.1, ?_⟩
 ·rw [List.pairwise_append]
  refine ⟨hs.1, List.pairwise_singleton _ _, fun a ha b hb => ?_⟩
  rw [List.mem_singleton.1 hb]; exact h1 a ha
 ·intro a ha b hb
  rcases List.mem_append.1 ha with ha | ha
  ·exact hs.2.2 a ha b hb
  ·rw [List.mem_singleton.1 ha]; exact h2 b hb
theorem ins_perm {α : Type} (l : List α) (z : α) (k : Nat) : (l.take k ++ [z] ++ l.drop k).Perm (z :: l) := by
 have : (l.take k ++ [z] ++ l.drop k).Perm ([z] ++ l.take k ++ l.drop k) := (List.perm_append_comm).append_right _
 refine this.trans ?_
 rw [List.append_assoc, List.take_append_drop]; exact List.Perm.refl _
theorem ins_mem {α : Type} (l : List α) (z : α) (k : Nat) (x : α) : x ∈ l.take k ++ [z] ++ l.drop k ↔ x ∈ l ∨ x = z := by
 rw [(ins_perm l z k).mem_iff, List.mem_cons, or_comm]
theorem ins_len {α : Type} (l : List α) (z : α) (k : Nat) : (l.take k ++ [z] ++ l.drop k).length = l.length + 1 := by
 rw [(ins_perm l z k).length_eq, List.length_cons]
theorem ins_flat {α : Type} (enc : α → List Value) (l : List α) (z : α) (k : Nat) : (l.take k).flatMap enc ++ enc z ++ (l.drop k).flatMap enc = (l.take k ++ [z] ++ l.drop k).flatMap enc := by
 simp [List.flatMap_append]
/-- The slice 'v' is nil, or these, in a block behind 'g'. -/
def SlN {α : Type} (k : Nat) (enc : α → List Value) (w : World) (g : Nat) (v : Value) (l : List α) : Prop :=
 (v = .slice none 0 0 ∧ l = []) ∨ ∃ b off cap, v = .slice (some ⟨b, off, none⟩) l.length cap ∧ 0 < l.length ∧ l.length ≤ cap ∧ cap ≤ maxLen ∧ g < b ∧ Cells k enc w b off l
theorem SlN.sl {α : Type} {k : Nat} {enc : α → List Value} {w : World} {g : Nat} {v : Value} {l : List α} (h : SlN k enc w g v l) : Sl k enc w v l := by
 rcases h with ⟨h, h'⟩ | ⟨b, off, cap, h1, _, h2, h3, _, h4⟩
 ·exact .inl ⟨⟨_, _, h⟩, h'⟩
 ·exact .inr ⟨b, off, cap, h1, h2, h3, h4⟩
theorem SlN.next {α : Type} {k : Nat} {enc : α → List Value} {w w' : World} {g : Nat} {v : Value} {l : List α} (h : SlN k enc w g v l) (hb : Below w.heap.size w w') : SlN k enc w' g v l := by
 rcases h with h | ⟨b, off, cap, h1, h0, h2, h3, hne, h4⟩
 ·exact .inl h
 ·exact .inr ⟨b, off, cap, h1, h0, h2, h3, hne, h4.next hb⟩
theorem SlN.set {α : Type} {k : Nat} {enc : α → List Value} {w : World} {g : Nat} {v : Value} {l : List α} (h : SlN k enc w g v l) (B : Nat) (hB : B ≤ g) (i : Nat) (u : Value) : SlN k enc (w.setCell ⟨B, i, none⟩ u) g v l := by
 rcases h with h | ⟨b, off, cap, h1, h0, h2, h3, hne, h4⟩
 ·exact .inl h
 ·refine .inr ⟨b, off, cap, h1, h0, h2, h3, hne, by simpa using h4.1, fun i hi j u hu => ?_⟩
  rw [World.cell?_setCell_other _ _ _ _ (by intro h'; have := congrArg Addr.block h'; simp at this; omega)]
  exact h4.2 i hi j u hu
theorem row_slN {α : Type} {enc : α → List Value} {k : Nat} (hk : ∀ x, (enc x).length = k) {w : World} {base g : Nat} {e : TypeId} {v : Value} {l : List α} (h : w.ownsRow base e k v l.length (l.flatMap enc)) (h0 : 0 < l.length) (hg : g < base) : SlN k enc w g v l := by
 rcases row_sl hk h with ⟨_, hn⟩ | ⟨b, off, cap, h1, h2, h3, h4⟩
 ·rw [hn] at h0; simp at h0
 ·refine .inr ⟨b, off, cap, h1, h0, h2, h3, ?_, h4⟩
  rcases h.2 with ⟨hv, hn⟩ | ⟨g', cap', cur, hv, hb, _⟩
  ·omega
  ·rw [h1] at hv; injection hv with hv; injection hv with hv; injection hv with hv; omega

theorem SlN.set5 {α : Type} {k : Nat} {enc : α → List Value} {w : World} {g : Nat} {v : Value} {l : List α} (h : SlN k enc w g v l) (B : Nat) (hB : B ≤ g) (u0 u1 u2 u3 u4 : Value) :
  SlN k enc (((((w.setCell ⟨B, 0, none⟩ u0).setCell ⟨B, 1, none⟩ u1).setCell ⟨B, 2, none⟩ u2).setCell ⟨B, 3, none⟩ u3).setCell ⟨B, 4, none⟩ u4) g v l :=
 ((((h.set B hB 0 u0).set B hB 1 u1).set B hB 2 u2).set B hB 3 u3).set B hB 4 u4
set_option maxHeartbeats 2000000 in
theorem put_nil (z : Int) (g : Nat) (w : World) (hg : g < w.heap.size) :
  Calls Tryz.prog 36 #[.slice none 0 0, .int .i64 z] w fun e w' => ∃ v', e = .returned v' ∧ SlN 1 intC w' g v' [z] ∧ Below w.heap.size w w' := by
 go_enter Tryz.func36, Tryz.ntmps36
 go_wp2_with fail
 go_loop [5] (fun i => i = .int .i64 0) (fun _ => 0)
 case atStart => rfl
 case round =>
  subst hrel
  go_wp2_with fail
  refine region25_6n _ ?_ z w _ _ _ _ _ _ _ _ _ _ _ _ _ _ _ _ _ _ _ _ _ _ _ _ _ _ _ _ _ _ _ _ _ _ _ _ _ _ _ _ _ _ ?_
  ·intro c a a' w h; obtain ⟨_, h, _⟩ := h.2; cases h
  intro W' e0 g7 a8 c8 hb hown
  go_wp2_with fail
  go_ret
  exact ⟨_, rfl, row_slN (l := [z]) intC_len (by simpa using hown) (by simp) hg, hb⟩
set_option maxHeartbeats 4000000 in
theorem put_some (l : List Int) (hr : l.Pairwise (fun a b => a < b)) (h0 : 0 < l.length) (hl : l.length ≤ 5000) (z : Int) (b off c : Nat) (hlc : l.length ≤ c) (hcm : c ≤ maxLen) (g : Nat) (w : World) (hg : g < w.heap.size) (hbg : g < b) (hC : Cells 1 intC w b off l) :
  Calls Tryz.prog 36 #[.slice (some ⟨b, off, none⟩) l.length c, .int .i64 z] w fun e w' => ∃ v' l', e = .returned v' ∧ SlN 1 intC w' g v' l' ∧ l'.Pairwise (fun a b => a < b) ∧ (∀ x, x ∈ l' ↔ x ∈ l ∨ x = z) ∧ l'.length ≤ l.length + 1 ∧ Below w.heap.size w w' := by
 have HC : Hid (Cells 1 intC w b off l) := hC
 have hbl := hC.1
 have HR : Hid (l.Pairwise (fun a b => a < b)) := hr
 have hcm' : c ≤ 9223372036854775807 := by unfold maxLen at hcm; omega
 clear hC hr
 have last : ∀ k, k ≤ l.length → (∀ j, k ≤ j → (hj : j < l.length) → z < l[j]) → (∀ (h : 0 < k) (hk : k - 1 < l.length), l[k - 1] < z) → ∃ l', l' = l.take k ++ [z] ++ l.drop k ∧ l'.Pairwise (fun a b => a < b) ∧ (∀ x, x ∈ l' ↔ x ∈ l ∨ x = z) ∧ l'.length = l.length + 1 := by
  intro k hk h2 h1
  refine ⟨_, rfl, ins_pairwise z k HR.out ?_ ?_, ins_mem l z k, ins_len l z k⟩
  ·intro a ha
   obtain ⟨i, hi, rfl⟩ := List.getElem_of_mem ha
   rw [List.length_take] at hi
   rw [List.getElem_take]
   have hk1 : k - 1 < l.length := by omega
   have := h1 (by omega) hk1
   rcases Nat.lt_or_ge i (k - 1) with h | h
   ·have h3 := (List.pairwise_iff_getElem.1 HR.out) i (k - 1) (by omega) hk1 h
    omega
   ·have e : i = k - 1 := by omega
    subst e; exact this
  ·intro a ha
   obtain ⟨i, hi, rfl⟩ := List.getElem_of_mem ha
   rw [List.length_drop] at hi
   rw [List.getElem_drop]
   exact h2 (k + i) (by omega) (by omega)
 have LAST : Hid (∀ k, k ≤ l.length → (∀ j, k ≤ j → (hj : j < l.length) → z < l[j]) → (∀ (h : 0 < k) (hk : k - 1 < l.length), l[k - 1] < z) → ∃ l', l' = l.take k ++ [z] ++ l.drop k ∧ l'.Pairwise (fun a b => a < b) ∧ (∀ x, x ∈ l' ↔ x ∈ l ∨ x = z) ∧ l'.length = l.length + 1) := last
 clear last
 go_enter Tryz.func36, Tryz.ntmps36
 go_wp2_with fail
 go_loop [5] (fun i => ∃ k : Nat, k ≤ l.length ∧ i = .int .i64 k ∧ Hid (∀ j, k ≤ j → (hj : j < l.length) → z < l[j])) (fun i => (intOf i).toNat)
 case atStart => exact ⟨l.length, Nat.le_refl _, rfl, by intro j h hj; omega⟩
 case round =>
  obtain ⟨k, hk, rfl, HA⟩ := hrel
  rcases Nat.eq_zero_or_pos k with hk0 | hk0
  ·subst hk0
   obtain ⟨l', hl', q1, q2, q3⟩ := LAST.out 0 (Nat.zero_le _) HA.out (by intro h; omega)
   obtain ⟨A, hA⟩ : ∃ A : Addr, (if c = 0 then some (⟨b, off, none⟩ : Addr) else some ⟨b, off + 0, none⟩) = some A := by
    by_cases h : c = 0
    ·exact ⟨_, if_pos h⟩
    ·exact ⟨_, if_neg h⟩
   have HL' : Hid (l' = l.take 0 ++ [z] ++ l.drop 0) := hl'
   have HQ1 : Hid (l'.Pairwise (fun a b => a < b)) := q1
   have HQ3 : Hid (l'.length = l.length + 1) := q3
   have HQ2 : Hid (∀ x, x ∈ l' ↔ x ∈ l ∨ x = z) := q2
   clear hl' q1 q2 q3
   go_wp2_with fail
   refine region25_6s _ ?_ l b off c 0 (Nat.zero_le _) hlc hl hcm' A hA z w HC.out _ _ _ _ _ _ _ _ _ _ _ _ _ _ _ _ _ _ _ _ _ _ _ _ _ _ _ _ _ _ _ _ _ _ _ _ _ _ _ _ _ _ ?_
   ·intro c a a' w h; obtain ⟨_, _, h, _⟩ := h.2; cases h
   intro W' e0 a5 c5 g7 a8 c8 a13 c13 hb hown
   go_wp2_with fail
   go_ret
   refine ⟨_, l', rfl, row_slN intC_len (by rw [HQ3.out, HL'.out, ← ins_flat]; exact hown) (by rw [HQ3.out]; omega) hg, HQ1.out, HQ2.out, by rw [HQ3.out]; exact Nat.le_refl _, hb⟩
  ·have hkz : (0 : Int) < (k : Int) := by omega
   have hlt1 : k - 1 < l.length := by omega
   have c1 := HC.out.int (k - 1) hlt1
   have hkm : ((k : Int) - 1) = ((k - 1 : Nat) : Int) := by omega
   have hk1 : ((k - 1 : Nat) : Int) < (l.length : Int) := by omega
   generalize hy : l[k - 1] = y at c1
   have HY : Hid (l[k - 1] = y) := hy
   clear hy
   by_cases h1 : z < y
   ·go_wp2_with fail
    go_round
    case rel =>
     refine ⟨k - 1, by omega, rfl, ?_⟩
     show ∀ j, k - 1 ≤ j → (hj : j < l.length) → z < l[j]
     intro j h hj
     rcases Nat.lt_or_ge j k with h' | h'
     ·have e : j = k - 1 := by omega
      subst e; rw [HY.out]; exact h1
     ·exact HA.out j h' hj
    case measure => simp [intOf]; omega
   ·by_cases h2 : y = z
    ·have h2' : (y == z) = true := by simpa using h2
     have HE : Hid (y = z) := h2
     clear h2
     go_wp2_with fail
     go_ret
     refine ⟨_, rfl, l, .inr ⟨b, off, c, rfl, h0, hlc, hcm, hbg, HC.out⟩, HR.out, fun x => ⟨.inl, fun h => ?_⟩, by omega, Below.refl _ w⟩
     rcases h with h | h
     ·exact h
     ·rw [h, ← HE.out, ← HY.out]; exact List.getElem_mem hlt1
    ·have h2' : (y == z) = false := by simpa using h2
     obtain ⟨l', hl', q1, q2, q3⟩ := LAST.out k hk HA.out (by intro h hk; rw [HY.out]; omega)
     obtain ⟨A, hA⟩ : ∃ A : Addr, (if c = k then some (⟨b, off, none⟩ : Addr) else some ⟨b, off + k, none⟩) = some A := by
      by_cases h : c = k
      ·exact ⟨_, if_pos h⟩
      ·exact ⟨_, if_neg h⟩
     have HL' : Hid (l' = l.take k ++ [z] ++ l.drop k) := hl'
     have HQ1 : Hid (l'.Pairwise (fun a b => a < b)) := q1
     have HQ3 : Hid (l'.length = l.length + 1) := q3
     have HQ2 : Hid (∀ x, x ∈ l' ↔ x ∈ l ∨ x = z) := q2
     clear hl' q1 q2 q3 h2
     go_wp2_with fail
     refine region25_6s _ ?_ l b off c k hk hlc hl hcm' A hA z w HC.out _ _ _ _ _ _ _ _ _ _ _ _ _ _ _ _ _ _ _ _ _ _ _ _ _ _ _ _ _ _ _ _ _ _ _ _ _ _ _ _ _ _ ?_
     ·intro c a a' w h; obtain ⟨_, _, h, _⟩ := h.2; cases h
     intro W' e0 a5 c5 g7 a8 c8 a13 c13 hb hown
     go_wp2_with fail
     go_ret
     refine ⟨_, l', rfl, row_slN intC_len (by rw [HQ3.out, HL'.out, ← ins_flat]; exact hown) (by rw [HQ3.out]; omega) hg, HQ1.out, HQ2.out, by rw [HQ3.out]; exact Nat.le_refl _, hb⟩
theorem put_any (l : List Int) (hr : l.Pairwise (fun a b => a < b)) (hl : l.length ≤ 5000) (z : Int) (v : Value) (g : Nat) (w : World) (hg : g < w.heap.size) (hS : SlN 1 intC w g v l) :
  Calls Tryz.prog 36 #[v, .int .i64 z] w fun e w' => ∃ v' l', e = .returned v' ∧ SlN 1 intC w' g v' l' ∧ l'.Pairwise (fun a b => a < b) ∧ (∀ x, x ∈ l' ↔ x ∈ l ∨ x = z) ∧ l'.length ≤ l.length + 1 ∧ Below w.heap.size w w' := by
 rcases hS with ⟨rfl, rfl⟩ | ⟨b, off, c, rfl, h0, h1, h2, h3, hC⟩
 ·exact (put_nil z g w hg).mono fun e w' ⟨v', he, hs, hb⟩ => ⟨v', [z], he, hs, List.pairwise_singleton _ _, fun x => by simp, by simp, hb⟩
 ·exact put_some l hr h0 hl z b off c h1 h2 g w hg h3 hC
end Go.Proofs.YtgpkdjhllekihaaGreatDoor.Ven

namespace Go.Proofs.YtgpkdjhllekihaaGreatDoor.Ven
set_option linter.unusedVariables false

theorem ltS_trans {a b c : Seat} (h1 : ltS a b = true) (h2 : ltS b c = true) : ltS a c = true := by rw [ltS_iff] at *; omega
theorem ltS_asymm {a b : Seat} (h : ltS a b = true) : ltS b a = false := by
 cases h' : ltS b a with
 | false => rfl
 | true => rw [ltS_iff] at *; omega
/-- Of two rows of the same, one rising, the other nowhere falling: they are one. -/
theorem rising_unique {α : Type} (lt : α → α → Bool) : ∀ (l1 l2 : List α), l1.Perm l2 → l1.Pairwise (fun a b => lt a b = true) → l2.Pairwise (fun a b => lt b a = false) → l1 = l2
 | [], l2, hp, _, _ => (List.nil_perm.1 hp).symm
 | x :: r, [], hp, _, _ => by have := hp.length_eq; simp at this
 | x :: r, y :: r2, hp, h1, h2 => by
  rw [List.pairwise_cons] at h1 h2
  have hxy : x = y := by
   rcases List.mem_cons.1 (hp.mem_iff.1 List.mem_cons_self) with h | h
   ·exact h
   ·rcases List.mem_cons.1 (hp.mem_iff.2 List.mem_cons_self) with h' | h'
    ·exact h'.symm
    ·have := h1.1 y h'
     rw [h2.1 x h] at this; cases this
  subst hxy
  rw [rising_unique lt r r2 (hp.cons_inv) h1.2 h2.2]
/-- seatsB, by parts. -/
theorem seatsB_iff (l : List Seat) : seatsB l = true ↔ 1 ≤ l.length ∧ l.length ≤ 4096 ∧ (∀ s ∈ l, seatB s = true) ∧ l.Pairwise (fun a b => ltS a b = true) := by
 unfold seatsB
 simp only [Bool.and_eq_true, decide_eq_true_eq, upB_iff, and_assoc]
 refine and_congr_right fun h1 => and_congr_right fun h2 => ?_
 constructor
 ·intro h
  refine ⟨fun s hs => ?_, ?_⟩
  ·obtain ⟨i, hi, rfl⟩ := List.getElem_of_mem hs
   have := h i hi
   unfold okSeat at this
   rw [getElem!_pos l i hi] at this
   simp only [Bool.and_eq_true] at this
   exact this.1
  ·rw [List.pairwise_iff_getElem]
   have step : ∀ i (hi : i + 1 < l.length), ltS (l[i]'(by omega)) l[i + 1] = true := fun i hi => by
    have := h (i + 1) hi
    rw [okSeat_succ l (i + 1) (by omega) hi, Bool.and_eq_true] at this
    exact this.2
   intro i j hi hj hij
   induction j with
   | zero => omega
   | succ j ih =>
    rcases Nat.lt_or_ge i j with h' | h'
    ·exact ltS_trans (ih (by omega) h') (step j hj)
    ·have e : i = j := by omega
     subst e; exact step i hj
 ·rintro ⟨h3, h4⟩ i hi
  rw [List.pairwise_iff_getElem] at h4
  rcases Nat.eq_zero_or_pos i with h0 | h0
  ·subst h0; rw [okSeat_zero l hi]; exact h3 _ (List.getElem_mem _)
  ·rw [okSeat_succ l i h0 hi, Bool.and_eq_true]
   exact ⟨h3 _ (List.getElem_mem _), h4 (i - 1) i (by omega) hi (by omega)⟩
theorem killsB_iff (l : List Int) (n : Int) : killsB l n = true ↔ l.length ≤ 200 ∧ (∀ k ∈ l, isSeatB k n = true) ∧ l.Pairwise (fun a b => a < b) := by
 unfold killsB
 simp only [Bool.and_eq_true, decide_eq_true_eq, upB_iff]
 refine and_congr_right fun h1 => ?_
 have ok0 : ∀ h : 0 < l.length, okKill l n 0 = isSeatB l[0] n := fun h => by unfold okKill; simp [h]
 have okS : ∀ k (h0 : 0 < k) (h : k < l.length), okKill l n k = (isSeatB l[k] n && decide (l[k - 1] < l[k])) := fun k h0 h => by
  have h' : k - 1 < l.length := by omega
  have e : (k == 0) = false := by simp; omega
  unfold okKill; simp only [e, Bool.false_or, getElem!_pos l k h, getElem!_pos l (k - 1) h']
 constructor
 ·intro h
  refine ⟨fun s hs => ?_, ?_⟩
  ·obtain ⟨i, hi, rfl⟩ := List.getElem_of_mem hs
   have := h i hi
   unfold okKill at this
   rw [getElem!_pos l i hi] at this
   simp only [Bool.and_eq_true] at this
   exact this.1
  ·rw [List.pairwise_iff_getElem]
   have step : ∀ i (hi : i + 1 < l.length), (l[i]'(by omega)) < l[i + 1] := fun i hi => by
    have := h (i + 1) hi
    rw [okS (i + 1) (by omega) hi, Bool.and_eq_true] at this
    exact of_decide_eq_true this.2
   intro i j hi hj hij
   induction j with
   | zero => omega
   | succ j ih =>
    rcases Nat.lt_or_ge i j with h' | h'
    ·exact Int.lt_trans (ih (by omega) h') (step j hj)
    ·have e : i = j := by omega
     subst e; exact step i hj
 ·rintro ⟨h3, h4⟩ i hi
  rw [List.pairwise_iff_getElem] at h4
  rcases Nat.eq_zero_or_pos i with h0 | h0
  ·subst h0; rw [ok0 hi]; exact h3 _ (List.getElem_mem _)
  ·rw [okS i h0 hi, Bool.and_eq_true]
   exact ⟨h3 _ (List.getElem_mem _), decide_eq_true (h4 (i - 1) i (by omega) hi (by omega))⟩
theorem polesB_iff (l : List Pole) : polesB l = true ↔ l.length ≤ 200 ∧ ∀ p ∈ l, poleB p = true := by
 unfold polesB
 simp only [Bool.and_eq_true, decide_eq_true_eq, upB_iff]
 refine and_congr_right fun h1 => ?_
 constructor
 ·intro h s hs
  obtain ⟨i, hi, rfl⟩ := List.getElem_of_mem hs
  have := h i hi
  unfold okPole at this
  rw [getElem!_pos l i hi] at this
  exact this
 ·intro h i hi
  unfold okPole
  rw [getElem!_pos l i hi]
  exact h _ (List.getElem_mem _)
end Go.Proofs.YtgpkdjhllekihaaGreatDoor.Ven

namespace Go.Proofs.YtgpkdjhllekihaaGreatDoor.Ven
set_option linter.unusedVariables false

/-- An order by which the seats rise is the only one. -/
theorem order_unique {l : List Seat} {ord ord' : List Nat} (h : IsOrder l ord) (h' : IsOrder l ord') (hr : ord.Pairwise fun i j => ltS l[i]! l[j]! = true) : ord = ord' :=
 rising_unique (fun i j => ltS l[i]! l[j]!) ord ord' (h.perm.trans h'.perm.symm) hr h'.sorted
theorem rising_order {l : List Seat} {ord : List Nat} (hp : ord.Perm (List.range l.length)) (hr : ord.Pairwise fun i j => ltS l[i]! l[j]! = true) : IsOrder l ord :=
 ⟨hp, hr.imp fun h => ltS_asymm h⟩
/-- Where no order rises nothing comes. -/
theorem NormTo.of_none {V : Ven} {r : Option Ven} (h : NormTo V r) (hn : ∀ ord, IsOrder V.seats ord → ¬ (pick V.seats ord).Pairwise (fun a b => ltS a b = true)) : r = none := by
 rcases h with ⟨h, _⟩ | ⟨_, _, _, ord', ho, rfl⟩
 ·exact h
 ·cases hm : mayB (normU V ord') with
  | false => rfl
  | true =>
   exfalso
   refine hn ord' ho ?_
   unfold mayB at hm
   simp only [Bool.and_eq_true, and_assoc] at hm
   exact ((seatsB_iff _).1 hm.1).2.2.2
end Go.Proofs.YtgpkdjhllekihaaGreatDoor.Ven

namespace Go.Proofs.YtgpkdjhllekihaaGreatDoor.Ven
set_option linter.unusedVariables false

def keyNe (a b : Seat) : Prop := ¬ (a.row = b.row ∧ a.x = b.x)
theorem keyNe_symm {a b : Seat} (h : keyNe a b) : keyNe b a := fun h' => h ⟨h'.1.symm, h'.2.symm⟩
theorem lt_keyNe {a b : Seat} (h : ltS a b = true) : keyNe a b := by rw [ltS_iff] at h; unfold keyNe; omega
theorem pick_perm {l : List Seat} {ord : List Nat} (h : IsOrder l ord) : (pick l ord).Perm l := by
 have e : (List.range l.length).map (fun i => l[i]!) = l := by
  apply List.ext_getElem
  ·simp
  ·intro i h1 h2
   simp only [List.getElem_map, List.getElem_range]
   exact getElem!_pos l i h2
 have := h.perm.map (fun i => l[i]!)
 rw [e] at this
 exact this
theorem pick_sorted {l : List Seat} {ord : List Nat} (h : IsOrder l ord) : (pick l ord).Pairwise (fun a b => ltS b a = false) := by
 unfold pick; rw [List.pairwise_map]; exact h.sorted
/-- Where no two stand at one place, an order rises. -/
theorem pick_rising {l : List Seat} {ord : List Nat} (h : IsOrder l ord) (hk : l.Pairwise keyNe) : (pick l ord).Pairwise (fun a b => ltS a b = true) := by
 have h1 := (pick_perm h).symm.pairwise hk (fun hab => keyNe_symm hab)
 have h2 := pick_sorted h
 exact (h1.and h2).imp fun {a b} ⟨p, q⟩ => by
  rw [ltS_iff]
  have : ¬ ltS b a = true := by rw [q]; simp
  rw [ltS_iff] at this
  unfold keyNe at p
  omega
theorem rising_keys {l : List Seat} (h : l.Pairwise (fun a b => ltS a b = true)) : l.Pairwise keyNe := h.imp fun h => lt_keyNe h
theorem not_rising {l : List Seat} {ord : List Nat} (h : IsOrder l ord) (hk : ¬ l.Pairwise keyNe) : ¬ (pick l ord).Pairwise (fun a b => ltS a b = true) := fun hr =>
 hk ((pick_perm h).pairwise (rising_keys hr) (fun hab => keyNe_symm hab))
end Go.Proofs.YtgpkdjhllekihaaGreatDoor.Ven
