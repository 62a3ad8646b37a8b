/- What venue.Norm holds while it walks the order of the seats; Appends onto a row of its own, as steps of a region that draws; A region that draws its order, by an invariant: one step an operation, whatever is done so far; venue.Norm by its contract; The statement of parterreref2.Norm that appends three times, by an invariant; The statement 's := v.Seats[v.Kills[i]]' of parterreref2.Norm: it draws its order: a fact for each state of what is done. -/
import Derived.Test.YtgpkdjhllekihaaGreatDoorVRegA
import Derived.Test.YtgpkdjhllekihaaGreatDoorVRegB
import Derived.Test.YtgpkdjhllekihaaGreatDoorVSorted
import Derived.Test.YtgpkdjhllekihaaGreatDoorVZero
import Derived.Maps.AppendAt
import Derived.Test.YtgpkdjhllekihaaGreatDoorVQuiet
namespace Go.Proofs.YtgpkdjhllekihaaGreatDoor.Ven
set_option linter.unusedVariables false
open Go.RowKit Go.Shelf

def pick (l : List Seat) (ord : List Nat) : List Seat := ord.map (fun i => l[i]!)
/-- Where, of the first 'k' of the order, the killed ones are. -/
def posOf (kills : List Int) (ord : List Nat) (k : Nat) : List Int := ((List.range k).filter (fun j => markB kills ord[j]!)).map (fun j : Nat => (j : Int))
def normU (V : Ven) (ord : List Nat) : Ven := ⟨pick V.seats ord, V.gap, V.radius, posOf V.kills ord V.seats.length, V.poles⟩
theorem posOf_zero (kills : List Int) (ord : List Nat) : posOf kills ord 0 = [] := rfl
theorem posOf_hit (kills : List Int) (ord : List Nat) (k : Nat) (h : markB kills ord[k]! = true) : posOf kills ord (k + 1) = posOf kills ord k ++ [(k : Int)] := by
  unfold posOf; rw [List.range_succ, List.filter_append, List.map_append]; simp only [List.filter_cons, h, if_true, List.filter_nil, List.map_cons, List.map_nil]
theorem posOf_miss (kills : List Int) (ord : List Nat) (k : Nat) (h : markB kills ord[k]! = false) : posOf kills ord (k + 1) = posOf kills ord k := by
  unfold posOf; rw [List.range_succ, List.filter_append, List.map_append]; simp only [List.filter_cons, h, if_false, List.filter_nil, List.map_nil, List.append_nil, Bool.false_eq_true]
theorem posOf_len (kills : List Int) (ord : List Nat) (k : Nat) : (posOf kills ord k).length ≤ k := by
  unfold posOf; rw [List.length_map]; exact Nat.le_trans (List.length_filter_le _ _) (by simp)
theorem IsOrder.length {l : List Seat} {ord : List Nat} (h : IsOrder l ord) : ord.length = l.length := by rw [h.perm.length_eq]; simp
theorem IsOrder.lt {l : List Seat} {ord : List Nat} (h : IsOrder l ord) (k : Nat) (hk : k < l.length) : ord[k]! < l.length := by
  have hk' : k < ord.length := by rw [h.length]; exact hk
  rw [getElem!_pos ord k hk']
  have := h.perm.mem_iff.1 (List.getElem_mem hk')
  simpa using this
theorem pick_take (l : List Seat) (ord : List Nat) (k : Nat) (hk : k < ord.length) : (pick l ord).take (k + 1) = (pick l ord).take k ++ [l[ord[k]!]!] := by
  have hk' : k < (pick l ord).length := by unfold pick; simpa using hk
  rw [List.take_succ_eq_append_getElem hk']
  have e : (pick l ord)[k] = l[ord[k]!]! := by
    rw [getElem!_pos ord k hk]; simp only [pick, List.getElem_map]
  rw [e]

structure NSt (w : World) (V : Ven) (ord : List Nat) (B1 B2 g og kg base : Nat) (vc : Array Value) (az : Option Addr) (cs : Nat) (ak : Option Addr) (m ck : Nat) (ap : Option Addr) (np cp ks kk : Nat) (wr : World) : Prop where
  below : Below w.heap.size w wr
  hbase : base ≤ wr.heap.size
  b1 : Box wr B1 33 vc
  b2 : Box wr B2 33 Zero5
  u : Box wr g 33 #[.slice az ks cs, .int .i64 V.gap, .int .i64 V.radius, .slice ak m ck, .slice ap np cp]
  ge : w.heap.size ≤ g
  gb1 : g ≠ B1
  gb2 : g ≠ B2
  gog : g ≠ og
  gkg : g ≠ kg
  so : wr.ownsRow base 45 4 (.slice az ks cs) ks (((pick V.seats ord).take ks).flatMap seatC)
  ko : wr.ownsRow base 3 1 (.slice ak m ck) m ((posOf V.kills ord kk).flatMap intC)
  ml : m = (posOf V.kills ord kk).length
  po : wr.ownsRow 0 74 3 (.slice ap np cp) V.poles.length (V.poles.flatMap poleC)
  orr : RowF wr og V.seats.length (fun j => .int .i64 ((ord[j]! : Nat) : Int))
  kr : RowF wr kg V.seats.length (fun j => .bool (markB V.kills j))
  ogl : og < base
  kgl : kg < base
theorem RowF.same {w w' : World} {g n : Nat} {f : Nat → Value} (h : RowF w g n f) (hs : w.heap.size ≤ w'.heap.size) (hh : w'.heap[g]? = w.heap[g]?) : RowF w' g n f :=
  ⟨Nat.lt_of_lt_of_le h.1 hs, fun j hj => ⟨by rw [World.cell?_of_block (w := w) (a := ⟨g, j, none⟩) hh]; exact (h.2 j hj).1, by rw [World.frozen?_of_block (w := w) (a := ⟨g, j, none⟩) hh]; exact (h.2 j hj).2⟩⟩
variable {w : World} {V : Ven} {ord : List Nat} {B1 B2 g og kg base : Nat} {vc : Array Value} {az : Option Addr} {cs : Nat} {ak : Option Addr} {m ck : Nat} {ap : Option Addr} {np cp ks kk : Nat} {wr : World}
theorem NSt.next (h : NSt w V ord B1 B2 g og kg base vc az cs ak m ck ap np cp ks kk wr) {w' : World} (hb : Below wr.heap.size wr w') : NSt w V ord B1 B2 g og kg base vc az cs ak m ck ap np cp ks kk w' :=
  { below := h.below.trans (hb.mono h.below.size), hbase := Nat.le_trans h.hbase hb.size, b1 := h.b1.next hb, b2 := h.b2.next hb, u := h.u.next hb, ge := h.ge, gb1 := h.gb1, gb2 := h.gb2, gog := h.gog, gkg := h.gkg,
    so := row_next h.so hb, ko := row_next h.ko hb, ml := h.ml, po := row_next h.po hb, orr := h.orr.next hb, kr := h.kr.next hb, ogl := h.ogl, kgl := h.kgl }
/-- A seat more. -/
theorem NSt.seat (h : NSt w V ord B1 B2 g og kg base vc az cs ak m ck ap np cp ks kk wr) (hks : ks < ord.length) {w2 : World} {az2 : Option Addr} {cs2 : Nat} (s : Seat) (hs : V.seats[ord[ks]!]! = s)
    (hown : w2.ownsRow base 45 4 (.slice az2 (ks + 1) cs2) (ks + 1) (((pick V.seats ord).take ks).flatMap seatC ++ seatC s)) (hgr : wr.grownBy w2 (Value.slice az ks cs).ownBlock) (hw : w.heap.size ≤ base) :
    NSt w V ord B1 B2 g og kg base vc az2 cs2 ak m ck ap np cp (ks + 1) kk (w2.setCell ⟨g, 0, none⟩ (.slice az2 (ks + 1) cs2)) := by
  have hu2 := h.u.grown hgr (h.u.not_row (by decide) h.so)
  have hb2 : Below w.heap.size w w2 := by
    refine h.below.grown hgr h.below.size ?_
    intro k hk
    rcases Nat.lt_or_ge k w.heap.size with hlt | hge
    · exact absurd hk.symm (row_low h.so (Nat.lt_of_lt_of_le hlt hw))
    · exact hge
  have hsz : wr.heap.size ≤ w2.heap.size := hgr.size
  exact {
    below := Below.setCell hb2 h.ge _
    hbase := by simpa using Nat.le_trans h.hbase hsz
    b1 := (h.b1.grown hgr (h.b1.not_row (by decide) h.so)).other g 0 h.gb1.symm _
    b2 := (h.b2.grown hgr (h.b2.not_row (by decide) h.so)).other g 0 h.gb2.symm _
    u := hu2.set 0 _
    ge := h.ge, gb1 := h.gb1, gb2 := h.gb2, gog := h.gog, gkg := h.gkg
    so := by
      rw [pick_take V.seats ord ks hks, hs, List.flatMap_append]
      have := row_setCell hown hu2 (by decide) 0 (.slice az2 (ks + 1) cs2)
      simpa using this
    ko := row_setCell (row_grown h.ko h.so (by decide) hgr) hu2 (by decide) 0 _
    ml := h.ml
    po := row_setCell (row_grown h.po h.so (by decide) hgr) hu2 (by decide) 0 _
    orr := (h.orr.same hsz (hgr.block og h.orr.1 (row_low h.so h.ogl))).same (by simp) (Below.heap_setCell w2 _ _ og h.gog.symm)
    kr := (h.kr.same hsz (hgr.block kg h.kr.1 (row_low h.so h.kgl))).same (by simp) (Below.heap_setCell w2 _ _ kg h.gkg.symm)
    ogl := h.ogl, kgl := h.kgl }
/-- A kill more. -/
theorem NSt.kill (h : NSt w V ord B1 B2 g og kg base vc az cs ak m ck ap np cp ks kk wr) {w2 : World} {ak2 : Option Addr} {ck2 : Nat} (hhit : markB V.kills ord[kk]! = true)
    (hown : w2.ownsRow base 3 1 (.slice ak2 (m + 1) ck2) (m + 1) ((posOf V.kills ord kk).flatMap intC ++ [.int .i64 (kk : Int)])) (hgr : wr.grownBy w2 (Value.slice ak m ck).ownBlock) (hw : w.heap.size ≤ base) :
    NSt w V ord B1 B2 g og kg base vc az cs ak2 (m + 1) ck2 ap np cp ks (kk + 1) (w2.setCell ⟨g, 3, none⟩ (.slice ak2 (m + 1) ck2)) := by
  have hu2 := h.u.grown hgr (h.u.not_row (by decide) h.ko)
  have hb2 : Below w.heap.size w w2 := by
    refine h.below.grown hgr h.below.size ?_
    intro k hk
    rcases Nat.lt_or_ge k w.heap.size with hlt | hge
    · exact absurd hk.symm (row_low h.ko (Nat.lt_of_lt_of_le hlt hw))
    · exact hge
  have hsz : wr.heap.size ≤ w2.heap.size := hgr.size
  exact {
    below := Below.setCell hb2 h.ge _
    hbase := by simpa using Nat.le_trans h.hbase hsz
    b1 := (h.b1.grown hgr (h.b1.not_row (by decide) h.ko)).other g 3 h.gb1.symm _
    b2 := (h.b2.grown hgr (h.b2.not_row (by decide) h.ko)).other g 3 h.gb2.symm _
    u := hu2.set 3 _
    ge := h.ge, gb1 := h.gb1, gb2 := h.gb2, gog := h.gog, gkg := h.gkg
    so := row_setCell (row_grown h.so h.ko (by decide) hgr) hu2 (by decide) 3 _
    ko := by
      rw [posOf_hit V.kills ord kk hhit, List.flatMap_append]
      have := row_setCell hown hu2 (by decide) 3 (.slice ak2 (m + 1) ck2)
      simpa [intC] using this
    ml := by rw [posOf_hit V.kills ord kk hhit, List.length_append, ← h.ml]; rfl
    po := row_setCell (row_grown h.po h.ko (by decide) hgr) hu2 (by decide) 3 _
    orr := (h.orr.same hsz (hgr.block og h.orr.1 (row_low h.ko h.ogl))).same (by simp) (Below.heap_setCell w2 _ _ og h.gog.symm)
    kr := (h.kr.same hsz (hgr.block kg h.kr.1 (row_low h.ko h.kgl))).same (by simp) (Below.heap_setCell w2 _ _ kg h.gkg.symm)
    ogl := h.ogl, kgl := h.kgl }
/-- No kill. -/
theorem NSt.miss (h : NSt w V ord B1 B2 g og kg base vc az cs ak m ck ap np cp ks kk wr) (hm : markB V.kills ord[kk]! = false) : NSt w V ord B1 B2 g og kg base vc az cs ak m ck ap np cp ks (kk + 1) wr :=
  { h with ko := by rw [posOf_miss V.kills ord kk hm]; exact h.ko, ml := by rw [posOf_miss V.kills ord kk hm]; exact h.ml }
/-- At the end the box holds the venue in that order. -/
theorem NSt.ven (h : NSt w V ord B1 B2 g og kg base vc az cs ak m ck ap np cp ks kk wr) (hks : ks = V.seats.length) (hkk : kk = V.seats.length) (ho : IsOrder V.seats ord) : VenAt wr az ks cs ak m ck ap np cp (normU V ord) := by
  have hl : (pick V.seats ord).length = V.seats.length := by unfold pick; rw [List.length_map, ho.length]
  refine ⟨?_, ?_, ?_⟩
  · have := h.so
    rw [List.take_of_length_le (by omega)] at this
    exact row_sl seatC_len (l := pick V.seats ord) (by rw [hl, ← hks]; exact this)
  · have := h.ko
    rw [hkk] at this
    have hml := h.ml
    rw [hkk] at hml
    exact row_sl intC_len (l := posOf V.kills ord V.seats.length) (by rw [← hml]; exact this)
  · exact row_sl poleC_len h.po
end Go.Proofs.YtgpkdjhllekihaaGreatDoor.Ven

namespace Go.Proofs.YtgpkdjhllekihaaGreatDoor.Ven
set_option linter.unusedVariables false
set_option maxRecDepth 100000
open Go.RowKit Go.Shelf

/-- append onto a row of its own, as one step of a region that draws; where the new row lies. -/
theorem step_append_own_at {P : Program} {ops : Array Oper} {o : Oper} {a : Act} {w : World} {K : Act → World → Prop} {Q : Exit → Act → World → Prop} {E : Prop}
    (hg : o.guard = none) (s x : Operand) (t : TypeId) (ho : o.op = .call { callee := .builtin .append, args := #[s, x], argTypes := #[t, t] })
    (base : Nat) (e : TypeId) (i : TypeInfo) (z : Value) (size bytes : Nat) (ht : P.underlying t = some (.slice e)) (hi : P.info? e = some i) (hz : i.zero = some z)
    (hsize : i.size = size) (hby : i.bytes = bytes) (hzs : z.cells.size = size) (hsz : 0 < size)
    (v : Value) (n : Nat) (xs : List Value) (hs : a.eval s = v) (hown : w.ownsRow base e size v n xs)
    (ad : Addr) (m c : Nat) (news : List Value) (hx : a.eval x = .slice (some ad) m c) (hl : news.length = m * size) (hnews : ∀ j u, news[j]? = some u → w.cell? (ad.add j) = some u) (h1 : ∀ u ∈ news, u.oneCell' = true)
    (h63 : n + m ≤ maxLen) (hbytes : (n + m) * bytes ≤ 140737488355328) (hbase : base ≤ w.heap.size)
    (h : ∀ v' w', w'.ownsRow base e size v' (n + m) (xs ++ news) → w.grownBy w' v.ownBlock → (v'.ownBlock = v.ownBlock ∨ v'.ownBlock = some w.heap.size) → K (a.put o.dst v') w') :
    if Region.wanted o (yielded ops a.tmps) = true then Oper.wp P o a w K Q else E := by
  have hw : Region.wanted o (yielded ops a.tmps) = true := by simp [Region.wanted, hg]
  rw [if_pos hw]
  obtain ⟨v', w', hr, h2, h3, _, h5⟩ := run_append_own_at (P := P) w base t o.type e i z size bytes ht hi hz hsize hby hzs hsz v n xs hown ad m c news hl hnews h1 h63 hbytes hbase
  unfold Oper.wp execOp
  simp only [ho, resolve, invoke, builtin, Sem.run_bind, Sem.run_pure, Result.andThen_ok, List.map_toArray, List.map_cons, List.map_nil, hs, hx, hr]
  exact h v' w' h2 h3 h5
theorem append_no23 (ty : TypeId) (base : Option Addr) (n c : Nat) (h : n ≤ c) (w : World) : (Builtin.append_ #[22, 22] ty #[.slice base n c, .slice none 0 0]).run Tryz.prog w = .ok (.slice base n c) w := by
  have hs := Tryz.sizeOf3
  cases base <;> simp [Builtin.append_, go_sem, hs, h, Builtin.lenOf, Builtin.firstCells]
theorem append_no22 (ty : TypeId) (base : Option Addr) (n c : Nat) (h : n ≤ c) (w : World) : (Builtin.append_ #[30, 30] ty #[.slice base n c, .slice none 0 0]).run Tryz.prog w = .ok (.slice base n c) w := by
  have hs := Tryz.sizeOf45
  cases base <;> simp [Builtin.append_, go_sem, hs, h, Builtin.lenOf, Builtin.firstCells]
/-- append of nothing, as one step of a region that draws. -/
theorem step_append_no {ops : Array Oper} {o : Oper} {a : Act} {w : World} {K : Act → World → Prop} {Q : Exit → Act → World → Prop} {E : Prop}
    (hg : o.guard = none) (t : TypeId) (ht : t = 30 ∨ t = 22) (hty : o.type = t) (s x : Operand) (ho : o.op = .call { callee := .builtin .append, args := #[s, x], argTypes := #[t, t] })
    (base : Option Addr) (n c : Nat) (hs : a.eval s = .slice base n c) (hn : n ≤ c) (hx : a.eval x = .slice none 0 0)
    (h : K (a.put o.dst (.slice base n c)) w) :
    if Region.wanted o (yielded ops a.tmps) = true then Oper.wp Tryz.prog o a w K Q else E := by
  have hw : Region.wanted o (yielded ops a.tmps) = true := by simp [Region.wanted, hg]
  rw [if_pos hw]
  have hr : (Builtin.append_ #[t, t] o.type #[.slice base n c, .slice none 0 0]).run Tryz.prog w = .ok (.slice base n c) w := by
    rcases ht with rfl | rfl
    · exact append_no22 _ base n c hn w
    · exact append_no23 _ base n c hn w
  unfold Oper.wp execOp
  simp only [ho, resolve, invoke, builtin, Sem.run_bind, Sem.run_pure, Result.andThen_ok, List.map_toArray, List.map_cons, List.map_nil, hs, hx, hr]
  exact h
theorem below_al (w : World) (o : Obj) : Below w.heap.size w (w.alloc o) := (Below.refl _ w).alloc (Nat.le_refl _) o
theorem row_cap {w : World} {base : Nat} {e : TypeId} {size : Nat} {a : Option Addr} {n c : Nat} {xs : List Value} (h : w.ownsRow base e size (.slice a n c) n xs) : n ≤ c := by
  rcases h.2 with ⟨hv, hn⟩ | ⟨g', cap, cur, hv, _, hb, hn, _⟩
  · injection hv with _ h1 h2; omega
  · injection hv with _ h1 h2; omega
theorem row_high {w : World} {base : Nat} {e : TypeId} {size : Nat} {v : Value} {n : Nat} {xs : List Value} (h : w.ownsRow base e size v n xs) : ∀ k, v.ownBlock = some k → base ≤ k := by
  intro k hk
  rcases Nat.lt_or_ge k base with h' | h'
  · exact absurd hk.symm (row_low h h')
  · exact h'
theorem row_ne_size {w : World} {base : Nat} {e : TypeId} {size : Nat} {v : Value} {n : Nat} {xs : List Value} (h : w.ownsRow base e size v n xs) : v.ownBlock ≠ some w.heap.size := by
  intro hc
  rcases h.2 with ⟨hv, _⟩ | ⟨g', cap, cur, hv, _, hb, _⟩
  · subst hv; cases hc
  · subst hv
    have := (Array.getElem?_eq_some_iff.1 hb).1
    simp [Value.ownBlock] at hc; omega
theorem loc_ne {v v' : Value} {s g : Nat} (h : v.ownBlock ≠ some g) (hg : g < s) (hl : v'.ownBlock = v.ownBlock ∨ v'.ownBlock = some s) : v'.ownBlock ≠ some g := by
  rcases hl with h' | h'
  · rw [h']; exact h
  · rw [h']; intro hc; injection hc with hc; omega
theorem seat_one (l : List Seat) (u : Value) (hu : u ∈ l.flatMap seatC) : u.oneCell' = true := by
  obtain ⟨t, _, hu⟩ := List.mem_flatMap.1 hu
  simp [seatC] at hu; rcases hu with rfl | rfl | rfl | rfl <;> rfl
theorem int_one (l : List Int) (u : Value) (hu : u ∈ l.flatMap intC) : u.oneCell' = true := by
  obtain ⟨t, _, hu⟩ := List.mem_flatMap.1 hu
  simp [intC] at hu; subst hu; rfl
theorem Cells.flat_takeG {α : Type} {k : Nat} {enc : α → List Value} {w : World} {b off : Nat} {l : List α} {j : Nat} (h : Cells k enc w b off l) (hk : ∀ x, (enc x).length = k) (h0 : 0 < k) (q : Nat) (u : Value) (hq : ((l.take j).flatMap enc)[q]? = some u) : w.cell? ⟨b, off + q, none⟩ = some u := by
  refine h.flat hk h0 q u ?_
  have e : l.flatMap enc = (l.take j).flatMap enc ++ (l.drop j).flatMap enc := by rw [← List.flatMap_append, List.take_append_drop]
  rw [e, List.getElem?_append_left (List.getElem?_eq_some_iff.1 hq).1]
  exact hq
theorem Cells.flat_dropG {α : Type} {k : Nat} {enc : α → List Value} {w : World} {b off : Nat} {l : List α} {j : Nat} (h : Cells k enc w b off l) (hk : ∀ x, (enc x).length = k) (h0 : 0 < k) (hj : j ≤ l.length) (q : Nat) (u : Value) (hq : ((l.drop j).flatMap enc)[q]? = some u) : w.cell? ⟨b, off + j * k + q, none⟩ = some u := by
  rw [Nat.add_assoc]
  refine h.flat hk h0 _ u ?_
  have e : l.flatMap enc = (l.take j).flatMap enc ++ (l.drop j).flatMap enc := by rw [← List.flatMap_append, List.take_append_drop]
  have hl : ((l.take j).flatMap enc).length = j * k := by rw [flat_len enc k hk, List.length_take, Nat.min_eq_left hj]
  rw [e, List.getElem?_append_right (by omega), hl, Nat.add_sub_cancel_left]
  exact hq
end Go.Proofs.YtgpkdjhllekihaaGreatDoor.Ven

namespace Go.Proofs.YtgpkdjhllekihaaGreatDoor.Ven
set_option linter.unusedVariables false
set_option maxRecDepth 100000
open Go.RowKit Go.Shelf

def depsOf (md : Region.Mode) (ops : Array Oper) (i : Nat) : List Nat := ((ops[i]?).map fun o => (o.after.toList.filter (Region.binds md)).map (·.on)).getD []
theorem ready_mem {md : Region.Mode} {ops : Array Oper} {listed : Array Bool} {i : Nat} (h : i ∈ Region.ready md ops listed) : i < ops.size ∧ listed.getD i true = false ∧ ∀ d ∈ depsOf md ops i, listed.getD d false = true := by
  unfold Region.ready at h
  rw [List.mem_filter, List.mem_range, Bool.and_eq_true] at h
  obtain ⟨h1, h2, h3⟩ := h
  refine ⟨h1, by simpa using h2, fun d hd => ?_⟩
  unfold depsOf at hd
  rw [Array.getElem?_eq_getElem h1] at h3 hd
  simp only [Option.map_some, Option.getD_some] at h3 hd
  obtain ⟨e, he, rfl⟩ := List.mem_map.1 hd
  obtain ⟨he1, he2⟩ := List.mem_filter.1 he
  have := Array.all_eq_true'.1 h3 e (by simpa using he1)
  simpa [he2] using this
theorem ready_of {md : Region.Mode} {ops : Array Oper} {listed : Array Bool} {i : Nat} (h1 : i < ops.size) (h2 : listed.getD i true = false) (h3 : ∀ d ∈ depsOf md ops i, listed.getD d false = true) : i ∈ Region.ready md ops listed := by
  unfold Region.ready
  rw [List.mem_filter, List.mem_range, Bool.and_eq_true]
  refine ⟨h1, by simpa using h2, ?_⟩
  unfold depsOf at h3
  rw [Array.getElem?_eq_getElem h1] at h3 ⊢
  simp only [Option.map_some, Option.getD_some] at h3 ⊢
  rw [Array.all_eq_true']
  intro e he
  cases hb : Region.binds md e with
  | false => rfl
  | true =>
    have := h3 e.on (List.mem_map.2 ⟨e, List.mem_filter.2 ⟨by simpa using he, hb⟩, rfl⟩)
    simpa using this
/-- Where nothing is ready all is done. -/
theorem all_listed {md : Region.Mode} {ops : Array Oper} (hlt : (List.range ops.size).all (fun i => (depsOf md ops i).all (fun d => d < i)) = true) {listed : Array Bool} (hs : listed.size = ops.size) (hr : Region.ready md ops listed = []) : ∀ i, i < ops.size → listed.getD i false = true := by
  intro i
  induction i using Nat.strongRecOn with
  | _ i ih =>
    intro hi
    have hd : ∀ d ∈ depsOf md ops i, listed.getD d false = true := by
      intro d hd
      have h1 := List.all_eq_true.1 hlt i (List.mem_range.2 hi)
      have h2 := of_decide_eq_true (List.all_eq_true.1 h1 d hd)
      exact ih d h2 (by omega)
    cases h : listed.getD i true with
    | true =>
      have hi' : i < listed.size := by omega
      simp only [Array.getD_eq_getD_getElem?, Array.getElem?_eq_getElem hi', Option.getD_some] at h ⊢
      exact h
    | false =>
      have := ready_of hi h hd
      rw [hr] at this; cases this
theorem countP_lt {α : Type} {p q : α → Bool} : ∀ (l : List α), (∀ x ∈ l, q x = true → p x = true) → (∃ x ∈ l, p x = true ∧ q x = false) → l.countP q < l.countP p
  | [], _, h => by obtain ⟨_, hx, _⟩ := h; cases hx
  | y :: r, h1, h2 => by
    have hle : r.countP q ≤ r.countP p := List.countP_mono_left fun x hx h => h1 x (List.mem_cons_of_mem _ hx) h
    rw [List.countP_cons, List.countP_cons]
    obtain ⟨x, hx, hp, hq⟩ := h2
    rcases List.mem_cons.1 hx with rfl | hx
    · simp [hp, hq]; omega
    · have := countP_lt r (fun x hx h => h1 x (List.mem_cons_of_mem _ hx) h) ⟨x, hx, hp, hq⟩
      cases hqy : q y with
      | false => simp; split <;> omega
      | true => rw [h1 y List.mem_cons_self hqy]; simp; omega
def leftN (n : Nat) (listed : Array Bool) : Nat := (List.range n).countP fun j => !listed.getD j true
theorem listed_set {listed : Array Bool} {i j : Nat} (h : (listed.setIfInBounds i true).getD j false = true) (hne : j ≠ i) : listed.getD j false = true := by
  simp only [Array.getD_eq_getD_getElem?, Array.getElem?_setIfInBounds] at h ⊢
  rw [if_neg (fun e => hne e.symm)] at h
  exact h
theorem getD_set {listed : Array Bool} {i : Nat} (hi : i < listed.size) (j : Nat) : (listed.setIfInBounds i true).getD j false = if i = j then true else listed.getD j false := by
  simp only [Array.getD_eq_getD_getElem?, Array.getElem?_setIfInBounds]
  split
  · rename_i h; subst h; simp
  · rfl
theorem set_keeps {listed : Array Bool} {i j : Nat} (h : listed.getD j false = true) : (listed.setIfInBounds i true).getD j false = true := by
  simp only [Array.getD_eq_getD_getElem?, Array.getElem?_setIfInBounds] at h ⊢
  split
  · rename_i e; subst e
    split
    · rfl
    · rename_i hlt; rw [Array.getElem?_eq_none (by omega)] at h; simp at h
  · exact h
theorem eval_of {a : Act} {k : Nat} {v : Value} (h : a.tmps[k]? = some v) : a.eval (.tmp k) = v := by
  show a.tmps.getD k undef = v
  rw [Array.getD_eq_getD_getElem?, h]; rfl
theorem slot_of {a : Act} {k : Nat} (h : k < a.tmps.size) : ∃ v, a.tmps[k]? = some v := ⟨_, Array.getElem?_eq_getElem h⟩
theorem wpAny_inv {P : Program} {md : Region.Mode} {ops : Array Oper} {Q : Exit → Act → World → Prop} (Inv : Array Bool → Act → World → Prop)
    (hlt : (List.range ops.size).all (fun i => (depsOf md ops i).all (fun d => d < i)) = true)
    (hstep : ∀ listed a w i, listed.size = ops.size → i < ops.size → listed.getD i false = false → (∀ d ∈ depsOf md ops i, listed.getD d false = true) → (∀ i d, listed.getD i false = true → d ∈ depsOf md ops i → listed.getD d false = true) → Inv listed a w → wpOp P ops Q i (Inv (listed.setIfInBounds i true)) a w)
    (hfin : ∀ listed a w, (∀ i, i < ops.size → listed.getD i false = true) → Inv listed a w → Q .normal a w) :
    ∀ (fuel : Nat) (listed : Array Bool) (a : Act) (w : World), listed.size = ops.size → leftN ops.size listed ≤ fuel → (∀ i d, listed.getD i false = true → d ∈ depsOf md ops i → listed.getD d false = true) → Inv listed a w → wpAny P md ops Q fuel listed a w
  | 0, listed, a, w, hs, hc, hcl, hI => by
    have hr : Region.ready md ops listed = [] := by
      cases h : Region.ready md ops listed with
      | nil => rfl
      | cons i r =>
        have hi : i ∈ Region.ready md ops listed := by rw [h]; exact List.mem_cons_self
        obtain ⟨h1, h2, _⟩ := ready_mem hi
        have : 0 < leftN ops.size listed := List.countP_pos_iff.2 ⟨i, List.mem_range.2 h1, by simp [h2]⟩
        omega
    exact ⟨hr, hfin listed a w (all_listed hlt hs hr) hI⟩
  | fuel + 1, listed, a, w, hs, hc, hcl, hI => by
    refine ⟨fun hr => hfin listed a w (all_listed hlt hs hr) hI, fun i hi => ?_⟩
    obtain ⟨h1, h2, h3⟩ := ready_mem hi
    have h2' : listed.getD i false = false := by
      simp only [Array.getD_eq_getD_getElem?, Array.getElem?_eq_getElem (show i < listed.size by omega), Option.getD_some] at h2 ⊢
      exact h2
    refine wpOp_mono (fun a' w' h => ?_) (hstep listed a w i hs h1 h2' h3 hcl hI)
    refine wpAny_inv Inv hlt hstep hfin fuel _ a' w' (by simpa using hs) ?_ ?_ h
    rotate_left
    · intro j d hj hd
      by_cases hji : j = i
      · subst hji; exact set_keeps (h3 d hd)
      · exact set_keeps (hcl j d (listed_set hj hji) hd)
    have hlt2 : leftN ops.size (listed.setIfInBounds i true) < leftN ops.size listed := by
      refine countP_lt _ (fun x hx hq => ?_) ⟨i, List.mem_range.2 h1, by simp [h2], ?_⟩
      · simp only [Bool.not_eq_true', Array.getD_eq_getD_getElem?, Array.getElem?_setIfInBounds] at hq ⊢
        split at hq
        · split at hq <;> simp_all
        · exact hq
      · simp [Array.getD_eq_getD_getElem?, show i < listed.size by omega]
    omega
theorem wp_region_inv {P : Program} {id : Nat} {ops : Array Oper} {Q : Exit → Act → World → Prop} {a : Act} {w : World} (hm : P.follows .mixedOrders = true) (Inv : Array Bool → Act → World → Prop)
    (hlt : (List.range ops.size).all (fun i => (depsOf .any ops i).all (fun d => d < i)) = true)
    (h0 : Inv (Array.replicate ops.size false) a w.drew)
    (hstep : ∀ listed a w i, listed.size = ops.size → i < ops.size → listed.getD i false = false → (∀ d ∈ depsOf .any ops i, listed.getD d false = true) → (∀ i d, listed.getD i false = true → d ∈ depsOf .any ops i → listed.getD d false = true) → Inv listed a w → wpOp P ops Q i (Inv (listed.setIfInBounds i true)) a w)
    (hfin : ∀ listed a w, (∀ i, i < ops.size → listed.getD i false = true) → Inv listed a w → Q .normal a w) : (Code.region id ops true).wp P Q a w := by
  refine wp_region_any hm ?_
  refine wpAny_inv Inv hlt hstep hfin _ _ _ _ (by simp) ?_ (fun i d h => by
    simp only [Array.getD_eq_getD_getElem?, Array.getElem?_replicate] at h
    split at h <;> simp at h) h0
  have : leftN ops.size (Array.replicate ops.size false) ≤ (List.range ops.size).length := List.countP_le_length
  simpa using this
/-- Slots that hold what they must once their operation is done; all but these slots are as they were. -/
structure Slots (a0 : Act) (dst : List (Option Nat)) (vals : List (Option Value)) (listed : Array Bool) (a : Act) : Prop where
  size : a.tmps.size = a0.tmps.size
  defers : a.defers = a0.defers
  keep : ∀ k, some k ∉ dst → a.tmps[k]? = a0.tmps[k]?
  val : ∀ i d v, listed.getD i false = true → dst[i]? = some (some d) → vals[i]? = some (some v) → a.tmps[d]? = some v
theorem Slots.start (a0 : Act) (dst : List (Option Nat)) (vals : List (Option Value)) (n : Nat) : Slots a0 dst vals (Array.replicate n false) a0 :=
  ⟨rfl, rfl, fun _ _ => rfl, fun i d v h => by
    simp only [Array.getD_eq_getD_getElem?, Array.getElem?_replicate] at h
    split at h <;> simp at h⟩
/-- An operation that writes its slot. -/
theorem Slots.put {a0 a : Act} {dst : List (Option Nat)} {vals : List (Option Value)} {listed : Array Bool} (h : Slots a0 dst vals listed a) (hn : dst.Pairwise (fun x y => x = none ∨ x ≠ y)) (i d : Nat) (v : Value) (hd : dst[i]? = some (some d)) (hb : d < a0.tmps.size) (hv : ∀ u, vals[i]? = some (some u) → u = v) :
    Slots a0 dst vals (listed.setIfInBounds i true) { tmps := a.tmps.setIfInBounds d v, defers := a.defers } := by
  have inj : ∀ j, dst[j]? = some (some d) → j = i := by
    intro j hj
    obtain ⟨hi1, hi2⟩ := List.getElem?_eq_some_iff.1 hd
    obtain ⟨hj1, hj2⟩ := List.getElem?_eq_some_iff.1 hj
    rw [List.pairwise_iff_getElem] at hn
    rcases Nat.lt_trichotomy i j with hl | hl | hl
    · rcases hn i j hi1 hj1 hl with h' | h'
      · rw [hi2] at h'; cases h'
      · rw [hi2, hj2] at h'; exact absurd rfl h'
    · exact hl.symm
    · rcases hn j i hj1 hi1 hl with h' | h'
      · rw [hj2] at h'; cases h'
      · rw [hi2, hj2] at h'; exact absurd rfl h'
  refine ⟨by simpa using h.size, h.defers, fun k hk => ?_, fun j d' u hj hdj huj => ?_⟩
  · have hne : ¬ d = k := fun e => hk (by rw [← e]; exact List.mem_of_getElem? hd)
    simp only [Array.getElem?_setIfInBounds]
    rw [if_neg hne]; exact h.keep k hk
  · simp only [Array.getElem?_setIfInBounds]
    by_cases e : d = d'
    · subst e
      have := inj j hdj
      subst this
      rw [if_pos rfl, if_pos (by rw [h.size]; exact hb), hv u huj]
    · rw [if_neg e]
      have hji : j ≠ i := by
        rintro rfl
        rw [hd] at hdj; injection hdj with hdj; injection hdj with hdj; exact e hdj
      exact h.val j d' u (listed_set hj hji) hdj huj
/-- An operation that writes no slot. -/
theorem Slots.skip {a0 a : Act} {dst : List (Option Nat)} {vals : List (Option Value)} {listed : Array Bool} (h : Slots a0 dst vals listed a) (i : Nat) (hd : dst[i]? = some none) : Slots a0 dst vals (listed.setIfInBounds i true) a :=
  ⟨h.size, h.defers, h.keep, fun j d v hj hdj hvj => h.val j d v (listed_set hj (by rintro rfl; rw [hd] at hdj; cases hdj)) hdj hvj⟩
def putAll (t : Array Value) : List (Nat × Value) → Array Value
  | [] => t
  | (d, v) :: r => putAll (t.setIfInBounds d v) r
theorem putAll_size : ∀ (l : List (Nat × Value)) (t : Array Value), (putAll t l).size = t.size
  | [], _ => rfl
  | (d, v) :: r, t => by unfold putAll; rw [putAll_size r]; simp
theorem putAll_other : ∀ (l : List (Nat × Value)) (t : Array Value) (k : Nat), (∀ p ∈ l, p.1 ≠ k) → (putAll t l)[k]? = t[k]?
  | [], _, _, _ => rfl
  | (d, v) :: r, t, k, h => by
    unfold putAll
    rw [putAll_other r _ k (fun p hp => h p (List.mem_cons_of_mem _ hp)), Array.getElem?_setIfInBounds, if_neg (h (d, v) List.mem_cons_self)]
theorem putAll_at : ∀ (l : List (Nat × Value)) (t : Array Value), (l.map (·.1)).Pairwise (fun x y => x ≠ y) → ∀ p ∈ l, p.1 < t.size → (putAll t l)[p.1]? = some p.2
  | (d, v) :: r, t, hn, p, hp, hlt => by
    rw [List.map_cons, List.pairwise_cons] at hn
    unfold putAll
    rcases List.mem_cons.1 hp with rfl | hp
    · rw [putAll_other r _ _ (fun q hq e => hn.1 q.1 (List.mem_map.2 ⟨q, hq, rfl⟩) e.symm), Array.getElem?_setIfInBounds, if_pos rfl, if_pos hlt]
    · exact putAll_at r _ hn.2 p hp (by simpa using hlt)
/-- The frame, written out. -/
theorem frame_eq {a0 a : Act} (l : List (Nat × Value)) (hs : a.tmps.size = a0.tmps.size) (hd : a.defers = a0.defers) (hn : (l.map (·.1)).Pairwise (fun x y => x ≠ y)) (hb : ∀ p ∈ l, p.1 < a0.tmps.size) (hk : ∀ k, (∀ p ∈ l, p.1 ≠ k) → a.tmps[k]? = a0.tmps[k]?) (hv : ∀ p ∈ l, a.tmps[p.1]? = some p.2) : a = { tmps := putAll a0.tmps l, defers := a0.defers } := by
  have : a.tmps = putAll a0.tmps l := by
    refine Array.ext_getElem? fun k => ?_
    by_cases h : ∃ p ∈ l, p.1 = k
    · obtain ⟨p, hp, rfl⟩ := h
      rw [hv p hp, putAll_at l a0.tmps hn p hp (hb p hp)]
    · have h' : ∀ p ∈ l, p.1 ≠ k := fun p hp e => h ⟨p, hp, e⟩
      rw [hk k h', putAll_other l _ k h']
  cases a; simp_all
theorem Slots.frame {a0 a : Act} {dst : List (Option Nat)} {vals : List (Option Value)} {listed : Array Bool} (h : Slots a0 dst vals listed a) (l : List (Nat × Value)) (hm : l.map (·.1) = dst.filterMap id) (hn : (l.map (·.1)).Pairwise (fun x y => x ≠ y)) (hb : (l.map (·.1)).all (fun d => decide (d < a0.tmps.size)) = true) (hv : ∀ p ∈ l, a.tmps[p.1]? = some p.2) : a = { tmps := putAll a0.tmps l, defers := a0.defers } := by
  refine frame_eq l h.size h.defers hn (fun p hp => of_decide_eq_true (List.all_eq_true.1 hb p.1 (List.mem_map.2 ⟨p, hp, rfl⟩))) (fun k hk => h.keep k fun hc => ?_) hv
  have : k ∈ l.map (·.1) := by rw [hm]; exact List.mem_filterMap.2 ⟨some k, hc, rfl⟩
  obtain ⟨p, hp, e⟩ := List.mem_map.1 this
  exact hk p hp e
theorem start_false (n j : Nat) : (Array.replicate n false).getD j false = false := by
  simp only [Array.getD_eq_getD_getElem?, Array.getElem?_replicate]
  split <;> rfl
end Go.Proofs.YtgpkdjhllekihaaGreatDoor.Ven

namespace Go.Proofs.YtgpkdjhllekihaaGreatDoor.Ven
set_option linter.unusedVariables false
set_option maxRecDepth 100000
open Go.RowKit Go.Shelf

/-- A venue whose three rows are rows of their own, each of its type. -/
structure VenOwn (w : World) (a1 : Option Addr) (n1 c1 : Nat) (a2 : Option Addr) (n2 c2 : Nat) (a3 : Option Addr) (n3 c3 : Nat) (V : Ven) : Prop where
  s : w.ownsRow 0 45 4 (.slice a1 n1 c1) V.seats.length (V.seats.flatMap seatC)
  k : w.ownsRow 0 3 1 (.slice a2 n2 c2) V.kills.length (V.kills.flatMap intC)
  p : w.ownsRow 0 74 3 (.slice a3 n3 c3) V.poles.length (V.poles.flatMap poleC)
theorem VenOwn.at {w : World} {a1 : Option Addr} {n1 c1 : Nat} {a2 : Option Addr} {n2 c2 : Nat} {a3 : Option Addr} {n3 c3 : Nat} {V : Ven} (h : VenOwn w a1 n1 c1 a2 n2 c2 a3 n3 c3 V) : VenAt w a1 n1 c1 a2 n2 c2 a3 n3 c3 V :=
  ⟨row_sl seatC_len h.s, row_sl intC_len h.k, row_sl poleC_len h.p⟩
theorem VenOwn.next {w w' : World} {a1 : Option Addr} {n1 c1 : Nat} {a2 : Option Addr} {n2 c2 : Nat} {a3 : Option Addr} {n3 c3 : Nat} {V : Ven} (h : VenOwn w a1 n1 c1 a2 n2 c2 a3 n3 c3 V) (hb : Below w.heap.size w w') : VenOwn w' a1 n1 c1 a2 n2 c2 a3 n3 c3 V :=
  ⟨row_next h.s hb, row_next h.k hb, row_next h.p hb⟩
/-- A cell of a box of another type is set. -/
theorem VenOwn.set {w : World} {a1 : Option Addr} {n1 c1 : Nat} {a2 : Option Addr} {n2 c2 : Nat} {a3 : Option Addr} {n3 c3 : Nat} {V : Ven} (h : VenOwn w a1 n1 c1 a2 n2 c2 a3 n3 c3 V) {g : Nat} {e : TypeId} {cs : Array Value} (hB : Box w g e cs) (h1 : e ≠ 45) (h2 : e ≠ 3) (h3 : e ≠ 74) (i : Nat) (v : Value) : VenOwn (w.setCell ⟨g, i, none⟩ v) a1 n1 c1 a2 n2 c2 a3 n3 c3 V :=
  ⟨row_setCell h.s hB h1 i v, row_setCell h.k hB h2 i v, row_setCell h.p hB h3 i v⟩
theorem ven_rows {V : Ven} {ord : List Nat} {wr : World} {base ks kk cs m ck np cp : Nat} {az ak ap : Option Addr} (so : wr.ownsRow base 45 4 (.slice az ks cs) ks (((pick V.seats ord).take ks).flatMap seatC)) (ko : wr.ownsRow base 3 1 (.slice ak m ck) m ((posOf V.kills ord kk).flatMap intC)) (ml : m = (posOf V.kills ord kk).length) (po : wr.ownsRow 0 74 3 (.slice ap np cp) V.poles.length (V.poles.flatMap poleC))
    (hks : ks = V.seats.length) (hkk : kk = V.seats.length) (ho : IsOrder V.seats ord) : VenOwn wr az ks cs ak m ck ap np cp (normU V ord) := by
  have hl : (pick V.seats ord).length = V.seats.length := by unfold pick; rw [List.length_map, ho.length]
  refine ⟨?_, ?_, po⟩
  · have := so
    rw [List.take_of_length_le (by omega)] at this
    have h2 : wr.ownsRow base 45 4 (.slice az ks cs) (pick V.seats ord).length ((pick V.seats ord).flatMap seatC) := by rw [hl, ← hks]; exact this
    exact Go.Joins.ownsRow_le h2 (Nat.zero_le _)
  · have := ko
    rw [hkk] at this
    have hml := ml
    rw [hkk] at hml
    have h2 : wr.ownsRow base 3 1 (.slice ak m ck) (posOf V.kills ord V.seats.length).length ((posOf V.kills ord V.seats.length).flatMap intC) := by rw [← hml]; exact this
    exact Go.Joins.ownsRow_le h2 (Nat.zero_le _)
abbrev venZ : Value := venV none 0 0 0 0 none 0 0 none 0 0
set_option maxHeartbeats 1000000 in
theorem norm_many (a1 a2 a3 : Option Addr) (n1 c1 n2 c2 n3 c3 : Nat) (gap radius : Int) (h : 4096 < n1 ∨ 200 < n3) (w : World) :
    Calls Tryz.prog 49 #[venV a1 n1 c1 gap radius a2 n2 c2 a3 n3 c3] w fun e w' => e = .returned (.tuple #[venZ, .bool false]) ∧ Below w.heap.size w w' := by
  by_cases h1 : (4096 : Int) < (n1 : Int)
  · clear h
    go_enter Tryz.func49, Tryz.ntmps49
    go_wp2_with fail
    refine bodyPost_ret (v := .tuple #[venZ, .bool false]) (by simp [results, Tryz.results49, go_sem]) rfl ⟨rfl, ?_⟩
    exact ((Below.refl _ w).alloc (Nat.le_refl _) _).alloc (by simp) _
  · have h2 : (200 : Int) < (n3 : Int) := by omega
    clear h
    go_enter Tryz.func49, Tryz.ntmps49
    go_wp2_with fail
    refine bodyPost_ret (v := .tuple #[venZ, .bool false]) (by simp [results, Tryz.results49, go_sem]) rfl ⟨rfl, ?_⟩
    exact ((Below.refl _ w).alloc (Nat.le_refl _) _).alloc (by simp) _
set_option maxHeartbeats 1000000 in
theorem norm_bad (a1 a2 a3 : Option Addr) (n1 c1 n2 c2 n3 c3 : Nat) (V : Ven) (w : World) (h : VenAt w a1 n1 c1 a2 n2 c2 a3 n3 c3 V) (h1 : V.seats.length ≤ 4096) (h3 : V.poles.length ≤ 200) (hin : V.kills.all (fun k => isSeatB k V.seats.length) = false) :
    Calls Tryz.prog 49 #[venV a1 n1 c1 V.gap V.radius a2 n2 c2 a3 n3 c3] w fun e w' => e = .returned (.tuple #[venZ, .bool false]) ∧ Below w.heap.size w w' := by
  have e1 := h.s.len
  have e3 := h.p.len
  have hm := fun w' hb => marks_no V.kills _ V.seats.length h1 w' (h.next (w' := w') hb).k hin
  rw [← e1] at hm h1
  rw [← e3] at h3
  clear e1 e3 h hin
  have z1 : ¬ (4096 : Int) < (n1 : Int) := by omega
  have z3 : ¬ (200 : Int) < (n3 : Int) := by omega
  generalize V.gap = gap
  generalize V.radius = radius
  go_enter Tryz.func49, Tryz.ntmps49
  go_wp2_with fail
  refine (hm _ (((Below.refl _ w).alloc (Nat.le_refl _) _).alloc (by simp) _)).mono ?_
  rintro e w1 ⟨rfl, hb⟩
  have hB := Box.next (Box.fresh (w.alloc (.cells #[.slice a1 n1 c1, .int .i64 gap, .int .i64 radius, .slice a2 n2 c2, .slice a3 n3 c3] 33)) 33 Zero5) hb
  simp at hB
  have hB1 : Below w.heap.size w w1 := (((Below.refl _ w).alloc (Nat.le_refl _) _).alloc (by simp) _).trans (hb.mono (by simp; omega))
  have x0 := hB.cell 0 _ rfl
  have x1 := hB.cell 1 _ rfl
  have x2 := hB.cell 2 _ rfl
  have x3 := hB.cell 3 _ rfl
  have x4 := hB.cell 4 _ rfl
  have f0 := hB.frozen 0
  have f1 := hB.frozen 1
  have f2 := hB.frozen 2
  have f3 := hB.frozen 3
  have f4 := hB.frozen 4
  have hl := hB.lt
  clear hb
  go_wp2_with fail
  refine bodyPost_ret (v := .tuple #[venZ, .bool false]) (by simp [results, Tryz.results49, go_sem, x0, x1, x2, x3, x4]) rfl ⟨rfl, ?_⟩
  exact Below.setCell (Below.setCell (Below.setCell (Below.setCell (Below.setCell hB1 (by simp) _) (by simp) _) (by simp) _) (by simp) _) (by simp) _

set_option maxRecDepth 100000 in
set_option maxHeartbeats 4000000 in
theorem norm_main (a1 a2 a3 : Option Addr) (c1 n2 c2 n3 c3 : Nat) (V : Ven) (w : World) (h : VenAt w a1 V.seats.length c1 a2 n2 c2 a3 n3 c3 V) (h1 : V.seats.length ≤ 4096) (h3 : V.poles.length ≤ 200) (hin : V.kills.all (fun k => isSeatB k V.seats.length) = true) :
    Calls Tryz.prog 49 #[venV a1 V.seats.length c1 V.gap V.radius a2 n2 c2 a3 n3 c3] w fun e w' => ∃ ord, IsOrder V.seats ord ∧ Below w.heap.size w w' ∧
      ((mayB (normU V ord) = false ∧ e = .returned (.tuple #[venZ, .bool false])) ∨ (mayB (normU V ord) = true ∧ ∃ b1 m1 d1 b2 m2 d2 b3 m3 d3, e = .returned (.tuple #[venV b1 m1 d1 V.gap V.radius b2 m2 d2 b3 m3 d3, .bool true]) ∧ VenOwn w' b1 m1 d1 b2 m2 d2 b3 m3 d3 (normU V ord))) := by
  have e3 := h.p.len
  have hm := fun w' hb => marks_yes V.kills _ V.seats.length h1 w' (h.next (w' := w') hb).k hin
  have z1 : ¬ (4096 : Int) < (V.seats.length : Int) := by omega
  have z3 : ¬ (200 : Int) < (n3 : Int) := by omega
  have HV : Hid (VenAt w a1 V.seats.length c1 a2 n2 c2 a3 n3 c3 V) := h
  clear e3 h hin
  go_enter Tryz.func49, Tryz.ntmps49
  go_wp2_with fail
  refine (hm _ (((Below.refl _ w).alloc (Nat.le_refl _) _).alloc (by simp) _)).mono ?_
  rintro e w1 ⟨rfl, hkr, hb⟩
  have hB1 := Box.next (Box.next (Box.fresh w 33 #[.slice a1 V.seats.length c1, .int .i64 V.gap, .int .i64 V.radius, .slice a2 n2 c2, .slice a3 n3 c3]) ((Below.refl _ _).alloc (Nat.le_refl _) (.cells Zero5 33))) hb
  have hB2 := Box.next (Box.fresh (w.alloc (.cells #[.slice a1 V.seats.length c1, .int .i64 V.gap, .int .i64 V.radius, .slice a2 n2 c2, .slice a3 n3 c3] 33)) 33 Zero5) hb
  have hbw : Below w.heap.size w w1 := (((Below.refl _ w).alloc (Nat.le_refl _) _).alloc (by simp) _).trans (hb.mono (by simp; omega))
  simp at hB2 hkr
  clear hb hm
  go_wp2_with fail
  refine region11_6 _ ?_ a1 a2 a3 V.seats.length c1 n2 c2 n3 c3 V.gap V.radius V.poles h3 w.heap.size w1 hB1 (HV.out.next hbw).p _ _ _ _ _ _ _ _ _ _ _ _ _ _ _ _ _ _ _ _ _ _ _ _ _ _ _ _ _ _ _ _ _ _ _ _ _ _ _ _ _ _ _ _ _ _ _ _ _ _ _ _ _ _ _ _ _ _ _ _ _ _ _ _ _ _ _ _ _ _ _ _ _ _ ?_
  · intro c a a' w h; rcases h.2 with ⟨_, _, _, ⟨_, h4⟩ | ⟨_, _, _, _, _, _, _, _, _, _, h4, _⟩⟩ <;> cases h4
  intro w2 g ap np cp hg hb2 hx hpo
  have v0 := (hB1.next hb2).cell 0 _ rfl
  have hbw2 : Below w.heap.size w w2 := hbw.trans (hb2.mono hbw.size)
  have hlw := (hB1.next hb2).lt
  go_wp2_with fail
  refine (sorted_any V.seats a1 V.seats.length c1 h1 w2 (HV.out.next hbw2).s).mono ?_
  rintro e w3 ⟨og, ord, rfl, hog, ho, hor, hb3⟩
  have hbw3 : Below w.heap.size w w3 := hbw2.trans (hb3.mono hbw2.size)
  have hzw1 : w1.heap.size ≤ w2.heap.size := hb2.size
  have hl2 := hB2.lt
  have hkl := hkr.1
  have st : NSt w V ord w.heap.size (w.heap.size + 1) g og (w.heap.size + 1 + 1) w3.heap.size #[.slice a1 V.seats.length c1, .int .i64 V.gap, .int .i64 V.radius, .slice a2 n2 c2, .slice a3 n3 c3] none 0 none 0 0 ap np cp 0 0 w3 :=
    { below := hbw3, hbase := Nat.le_refl _, b1 := (hB1.next hb2).next hb3, b2 := (hB2.next hb2).next hb3, u := hx.next hb3, ge := by omega, gb1 := by omega, gb2 := by omega, gog := by have := hx.lt; omega, gkg := by omega,
      so := World.ownsRow_nil _ _ _ _, ko := World.ownsRow_nil _ _ _ _, ml := rfl, po := Go.Joins.ownsRow_le (row_next hpo hb3) (Nat.zero_le _), orr := hor, kr := (hkr.next hb2).next hb3, ogl := hor.1, kgl := Nat.lt_of_lt_of_le hkl (Nat.le_trans hzw1 hb3.size) }
  have HO : Hid (IsOrder V.seats ord) := ho
  have hwb : w.heap.size ≤ w3.heap.size := hbw3.size
  clear hx hpo hb2 hb3 hor hkr hB1 hB2 v0 hlw hbw hbw2 hbw3 hog hg hzw1 hl2 hkl ho
  go_wp2_with fail
  go_loopw [7, 8, 44] (fun _ _ i wr => ∃ (k : Nat) (az : Option Addr) (cs : Nat) (ak : Option Addr) (m ck : Nat), k ≤ V.seats.length ∧ i = .int .i64 k ∧ NSt w V ord w.heap.size (w.heap.size + 1) g og (w.heap.size + 1 + 1) w3.heap.size #[.slice a1 V.seats.length c1, .int .i64 V.gap, .int .i64 V.radius, .slice a2 n2 c2, .slice a3 n3 c3] az cs ak m ck ap np cp k k wr) (fun _ _ i _ => V.seats.length - (intOf i).toNat)
  case atStart => exact ⟨0, none, 0, none, 0, 0, Nat.zero_le _, rfl, st⟩
  case round =>
    clear st
    obtain ⟨k, az, cs, ak, m, ck, hk, rfl, st⟩ := hrel
    by_cases hlt : k < V.seats.length
    · have hltz : (k : Int) < (V.seats.length : Int) := by omega
      have hlt' : k < V.seats.length := hlt
      have q0 : wr.cell? ⟨og, k, none⟩ = some (.int .i64 ((ord[k]! : Nat) : Int)) := (st.orr.2 k hlt').1
      have hol := HO.out.lt k hlt'
      have hkl : k < ord.length := by rw [HO.out.length]; exact hlt'
      generalize hwas : ord[k]! = was at q0 hol
      have HW : Hid (ord[k]! = was) := hwas
      clear hwas
      have hC0 : ∃ b off, a1 = some ⟨b, off, none⟩ ∧ Cells 4 seatC w b off V.seats := by
        rcases HV.out.s with ⟨_, hn⟩ | ⟨b, off, cap, he, _, _, hC⟩
        · rw [hn] at hlt'; simp at hlt'
        · cases he; exact ⟨b, off, rfl, hC⟩
      obtain ⟨b, off, rfl, hC⟩ := hC0
      have hse := (hC.next st.below).seat was hol
      have hse2 : V.seats[was]! = V.seats[was] := getElem!_pos V.seats was hol
      generalize V.seats[was] = sx at hse hse2
      obtain ⟨r, x, y, kk⟩ := sx
      simp only at hse
      have HS : Hid (V.seats[ord[k]!]! = ⟨r, x, y, kk⟩) := by
        show V.seats[ord[k]!]! = ⟨r, x, y, kk⟩
        rw [HW.out]; exact hse2
      clear hse2 hC
      go_wp2_with fail
      have stn := st.next ((Below.refl _ wr).alloc (Nat.le_refl _) (.cells #[.int .i64 r, .int .i64 x, .int .i64 y, .int .i64 kk] 45)).drew
      refine region11_10 _ ?_ az k cs (((pick V.seats ord).take k).flatMap seatC) w3.heap.size _ _ _ _ V.seats c1 b off was hol (by omega) h1 r x y kk w.heap.size g wr st.hbase st.u st.b1.lt (st.b1.cell 0 _ rfl) hse st.so _ _ _ _ _ _ _ _ _ _ _ _ _ _ _ _ _ _ _ _ _ _ _ _ _ _ _ _ _ _ _ _ _ _ _ _ _ _ _ _ _ _ _ _ _ _ _ _ _ _ _ _ _ _ _ _ _ _ _ _ _ _ _ _ _ _ _ _ _ _ _ _  ?_
      · intro c a a' w h; rcases h.2 with ⟨_, _, _, ⟨_, h4⟩ | ⟨_, _, _, _, _, _, _, _, _, _, h4, _⟩⟩ <;> cases h4
      intro w4 az2 cs2 hown4 hgr4
      have st4 := stn.seat hkl ⟨r, x, y, kk⟩ HS.out hown4 hgr4 hwb
      have hu4 := st4.u
      have m4 : (w4.setCell ⟨g, 0, none⟩ (.slice az2 (k + 1) cs2)).cell? ⟨w.heap.size + 1 + 1, was, none⟩ = some (.bool (markB V.kills was)) := (st4.kr.2 was hol).1
      generalize hw5 : w4.setCell ⟨g, 0, none⟩ (.slice az2 (k + 1) cs2) = w5 at st4 hu4 m4
      clear st stn hown4 hgr4 hse hw5 q0
      have hkb := st4.kr.1
      have holz : (was : Int) < (V.seats.length : Int) := by omega
      cases hmark : markB V.kills was with
      | false =>
        rw [hmark] at m4
        have HM : Hid (markB V.kills ord[k]! = false) := by
          show markB V.kills ord[k]! = false
          rw [HW.out]; exact hmark
        clear hmark
        go_wp2_with fail
        go_roundw
        case rel => exact ⟨k + 1, az2, cs2, ak, m, ck, by omega, by go_num, st4.miss HM.out⟩
        case measure => simp [intOf]; omega
      | true =>
        rw [hmark] at m4
        have HM : Hid (markB V.kills ord[k]! = true) := by
          show markB V.kills ord[k]! = true
          rw [HW.out]; exact hmark
        clear hmark
        have u3 := hu4.cell 3 _ rfl
        have ul := hu4.lt
        have hml := posOf_len V.kills ord k
        rw [← st4.ml] at hml
        obtain ⟨i0, hi, hz0, hz1, hz2⟩ := info3
        have stn4 := st4.next ((Below.refl _ w5).alloc (Nat.le_refl _) (.cells #[.int .i64 (k : Int)] 3))
        go_wp2_with (at_builtin; refine wpList_append_own _ rfl _ _ 22 rfl w3.heap.size 3 i0 (.int .i64 0) 1 8 Tryz.underlying22 hi hz0 hz1 hz2 rfl (by omega) _ _ _ rfl stn4.ko ⟨w5.heap.size, 0, none⟩ 1 1 [.int .i64 (k : Int)] rfl ?qc1 ?qc2 ?qc3 ?qc4 ?qc5 ?qc6 ?_)
        case qc1 => rfl
        case qc2 =>
          intro j u hj
          rw [Addr.add_lit, Nat.zero_add, World.cell?_alloc_at _ _ _ _ rfl]
          show [Value.int .i64 (k : Int)].toArray[j]? = some u
          rw [List.getElem?_toArray]; exact hj
        case qc3 => intro u hu; simp at hu; subst hu; rfl
        case qc4 => unfold maxLen; omega
        case qc5 => omega
        case qc6 => exact stn4.hbase
        intro v6 w6 hown6 hgr6 _
        obtain ⟨ak2, ck2, rfl⟩ := row_slice hown6
        have hu6 := stn4.u.grown hgr6 (stn4.u.not_row (by decide) stn4.ko)
        have y3 := hu6.cell 3 _ rfl
        have yf := hu6.frozen 3
        have yl := hu6.lt
        have st6 := stn4.kill HM.out hown6 hgr6 hwb
        clear stn4 st4 hown6 hgr6 hu6 hu4
        go_wp2_with fail
        go_roundw
        case rel => exact ⟨k + 1, az2, cs2, ak2, m + 1, ck2, by omega, by go_num, st6⟩
        case measure => simp [intOf]; omega
    · have hltz : ¬ (k : Int) < (V.seats.length : Int) := by omega
      have hke : k = V.seats.length := by omega
      have hven := st.ven hke hke HO.out
      have u0 := st.u.cell 0 _ rfl
      have u1 := st.u.cell 1 _ rfl
      have u2 := st.u.cell 2 _ rfl
      have u3 := st.u.cell 3 _ rfl
      have u4 := st.u.cell 4 _ rfl
      have hmay := may_any az ak ap k cs m ck np cp (normU V ord) wr hven
      have hmay' : Calls Tryz.prog 76 #[venV az k cs V.gap V.radius ak m ck ap np cp] wr fun e w' => e = .returned (.bool (mayB (normU V ord))) ∧ Below wr.heap.size wr w' := hmay
      have HKE : Hid (k = V.seats.length) := hke
      clear hmay hven hke
      cases hmb : mayB (normU V ord) with
      | false =>
        rw [hmb] at hmay'
        have HM : Hid (mayB (normU V ord) = false) := hmb
        clear hmb
        go_wp2_with fail
        refine hmay'.mono ?_
        rintro e w7 ⟨rfl, hb⟩
        have t0 := (st.u.next hb).cell 0 _ rfl
        have t1 := (st.u.next hb).cell 1 _ rfl
        have t2 := (st.u.next hb).cell 2 _ rfl
        have t3 := (st.u.next hb).cell 3 _ rfl
        have t4 := (st.u.next hb).cell 4 _ rfl
        have tl := (st.u.next hb).lt
        have y0 := (st.b2.next hb).cell 0 _ rfl
        have f0 := (st.b2.next hb).frozen 0
        have y1 := (st.b2.next hb).cell 1 _ rfl
        have f1 := (st.b2.next hb).frozen 1
        have y2 := (st.b2.next hb).cell 2 _ rfl
        have f2 := (st.b2.next hb).frozen 2
        have y3 := (st.b2.next hb).cell 3 _ rfl
        have f3 := (st.b2.next hb).frozen 3
        have y4 := (st.b2.next hb).cell 4 _ rfl
        have f4 := (st.b2.next hb).frozen 4
        have yl := (st.b2.next hb).lt
        have B7 : Below w.heap.size w w7 := st.below.trans (hb.mono st.below.size)
        clear st hb hmay' u0 u1 u2 u3 u4
        go_wp2_with fail
        refine bodyPost_ret (v := .tuple #[venZ, .bool false]) (by simp [results, Tryz.results49, go_sem, y0, y1, y2, y3, y4]) rfl ⟨ord, HO.out, ?_, Or.inl ⟨HM.out, rfl⟩⟩
        exact Below.setCell (Below.setCell (Below.setCell (Below.setCell (Below.setCell B7 (by simp) _) (by simp) _) (by simp) _) (by simp) _) (by simp) _
      | true =>
        rw [hmb] at hmay'
        have HM : Hid (mayB (normU V ord) = true) := hmb
        clear hmb
        go_wp2_with fail
        refine hmay'.mono ?_
        rintro e w7 ⟨rfl, hb⟩
        have t0 := (st.u.next hb).cell 0 _ rfl
        have t1 := (st.u.next hb).cell 1 _ rfl
        have t2 := (st.u.next hb).cell 2 _ rfl
        have t3 := (st.u.next hb).cell 3 _ rfl
        have t4 := (st.u.next hb).cell 4 _ rfl
        have tl := (st.u.next hb).lt
        have y0 := (st.b2.next hb).cell 0 _ rfl
        have f0 := (st.b2.next hb).frozen 0
        have y1 := (st.b2.next hb).cell 1 _ rfl
        have f1 := (st.b2.next hb).frozen 1
        have y2 := (st.b2.next hb).cell 2 _ rfl
        have f2 := (st.b2.next hb).frozen 2
        have y3 := (st.b2.next hb).cell 3 _ rfl
        have f3 := (st.b2.next hb).frozen 3
        have y4 := (st.b2.next hb).cell 4 _ rfl
        have f4 := (st.b2.next hb).frozen 4
        have yl := (st.b2.next hb).lt
        have B7 : Below w.heap.size w w7 := st.below.trans (hb.mono st.below.size)
        have st7 := st.next hb
        clear st hb hmay' u0 u1 u2 u3 u4
        go_wp2_with fail
        refine bodyPost_ret (v := .tuple #[venV az k cs V.gap V.radius ak m ck ap np cp, .bool true]) (by simp [results, Tryz.results49, go_sem, y0, y1, y2, y3, y4]) rfl ⟨ord, HO.out, ?_, Or.inr ⟨HM.out, az, k, cs, ak, m, ck, ap, np, cp, rfl, ?_⟩⟩
        · exact Below.setCell (Below.setCell (Below.setCell (Below.setCell (Below.setCell B7 (by simp) _) (by simp) _) (by simp) _) (by simp) _) (by simp) _
        · exact ven_rows (row_set5 st7.b2 (by decide) st7.so _ _ _ _ _) (row_set5 st7.b2 (by decide) st7.ko _ _ _ _ _) st7.ml (row_set5 st7.b2 (by decide) st7.po _ _ _ _ _) HKE.out HKE.out HO.out

/-- What venue.Norm may come to. -/
def NormTo (V : Ven) (r : Option Ven) : Prop :=
  (r = none ∧ (4096 < V.seats.length ∨ 200 < V.poles.length ∨ V.kills.all (fun k => isSeatB k V.seats.length) = false)) ∨
  (V.seats.length ≤ 4096 ∧ V.poles.length ≤ 200 ∧ V.kills.all (fun k => isSeatB k V.seats.length) = true ∧ ∃ ord, IsOrder V.seats ord ∧ r = if mayB (normU V ord) then some (normU V ord) else none)
/-- How it is handed back. -/
def NormRes (e : Ending) (w : World) : Option Ven → Prop
  | none => e = .returned (.tuple #[venZ, .bool false])
  | some U => ∃ b1 m1 d1 b2 m2 d2 b3 m3 d3, e = .returned (.tuple #[venV b1 m1 d1 U.gap U.radius b2 m2 d2 b3 m3 d3, .bool true]) ∧ VenAt w b1 m1 d1 b2 m2 d2 b3 m3 d3 U
def NormOwn (e : Ending) (w : World) : Option Ven → Prop
  | none => e = .returned (.tuple #[venZ, .bool false])
  | some U => ∃ b1 m1 d1 b2 m2 d2 b3 m3 d3, e = .returned (.tuple #[venV b1 m1 d1 U.gap U.radius b2 m2 d2 b3 m3 d3, .bool true]) ∧ VenOwn w b1 m1 d1 b2 m2 d2 b3 m3 d3 U
theorem norm_own (a1 a2 a3 : Option Addr) (n1 c1 n2 c2 n3 c3 : Nat) (V : Ven) (w : World) (h : VenAt w a1 n1 c1 a2 n2 c2 a3 n3 c3 V) :
    Calls Tryz.prog 49 #[venV a1 n1 c1 V.gap V.radius a2 n2 c2 a3 n3 c3] w fun e w' => ∃ r, NormTo V r ∧ NormOwn e w' r ∧ Below w.heap.size w w' := by
  have e1 := h.s.len
  have e3 := h.p.len
  by_cases h1 : V.seats.length ≤ 4096
  · by_cases h3 : V.poles.length ≤ 200
    · cases hin : V.kills.all (fun k => isSeatB k V.seats.length) with
      | false => exact (norm_bad a1 a2 a3 n1 c1 n2 c2 n3 c3 V w h h1 h3 hin).mono fun e w' ⟨he, hb⟩ => ⟨none, .inl ⟨rfl, .inr (.inr hin)⟩, he, hb⟩
      | true =>
        subst e1
        refine (norm_main a1 a2 a3 c1 n2 c2 n3 c3 V w h h1 h3 hin).mono ?_
        rintro e w' ⟨ord, ho, hb, ⟨hm, rfl⟩ | ⟨hm, b1, m1, d1, b2, m2, d2, b3, m3, d3, rfl, hv⟩⟩
        · exact ⟨none, .inr ⟨h1, h3, hin, ord, ho, by rw [hm]; rfl⟩, rfl, hb⟩
        · exact ⟨some (normU V ord), .inr ⟨h1, h3, hin, ord, ho, by rw [hm]; rfl⟩, ⟨b1, m1, d1, b2, m2, d2, b3, m3, d3, rfl, hv⟩, hb⟩
    · exact (norm_many a1 a2 a3 n1 c1 n2 c2 n3 c3 V.gap V.radius (by omega) w).mono fun e w' ⟨he, hb⟩ => ⟨none, .inl ⟨rfl, by omega⟩, he, hb⟩
  · exact (norm_many a1 a2 a3 n1 c1 n2 c2 n3 c3 V.gap V.radius (by omega) w).mono fun e w' ⟨he, hb⟩ => ⟨none, .inl ⟨rfl, by omega⟩, he, hb⟩
theorem norm_any (a1 a2 a3 : Option Addr) (n1 c1 n2 c2 n3 c3 : Nat) (V : Ven) (w : World) (h : VenAt w a1 n1 c1 a2 n2 c2 a3 n3 c3 V) :
    Calls Tryz.prog 49 #[venV a1 n1 c1 V.gap V.radius a2 n2 c2 a3 n3 c3] w fun e w' => ∃ r, NormTo V r ∧ NormRes e w' r ∧ Below w.heap.size w w' := by
  refine (norm_own a1 a2 a3 n1 c1 n2 c2 n3 c3 V w h).mono ?_
  rintro e w' ⟨r, hN, hR, hb⟩
  refine ⟨r, hN, ?_, hb⟩
  cases r with
  | none => exact hR
  | some U =>
    obtain ⟨b1, m1, d1, b2, m2, d2, b3, m3, d3, he, hv⟩ := hR
    exact ⟨b1, m1, d1, b2, m2, d2, b3, m3, d3, he, hv.at⟩
end Go.Proofs.YtgpkdjhllekihaaGreatDoor.Ven

namespace Go.Proofs.YtgpkdjhllekihaaGreatDoor.Ven
set_option linter.unusedVariables false
set_option maxRecDepth 100000
open Go.RowKit Go.Shelf

/-- What is known of the row that is being built, by what is done. -/
def InsG (l : List Seat) (j : Nat) (s : Seat) (W : World) (listed : Array Bool) (a : Act) (w : World) : Prop :=
  ∃ (rv : Value) (g7 : Nat),
    (listed.getD 17 false = true → a.tmps[66]? = some rv ∧ w.ownsRow W.heap.size 45 4 rv (l.length + 1) ((l.take j).flatMap seatC ++ seatC s ++ (l.drop j).flatMap seatC)) ∧
    (listed.getD 17 false = false → listed.getD 12 false = true → a.tmps[61]? = some rv ∧ w.ownsRow W.heap.size 45 4 rv (j + 1) ((l.take j).flatMap seatC ++ seatC s)) ∧
    (listed.getD 12 false = false → listed.getD 5 false = true → a.tmps[54]? = some rv ∧ w.ownsRow W.heap.size 45 4 rv j ((l.take j).flatMap seatC)) ∧
    (listed.getD 5 false = false → listed.getD 0 false = true → a.tmps[49]? = some rv ∧ w.ownsRow W.heap.size 45 4 rv 0 []) ∧
    (listed.getD 11 false = true → listed.getD 12 false = false → a.tmps[60]? = some (.slice (some ⟨g7, 0, none⟩) 1 1) ∧ Box w g7 45 #[.int .i64 s.row, .int .i64 s.x, .int .i64 s.y, .int .i64 s.kind] ∧ (listed.getD 0 false = true → rv.ownBlock ≠ some g7))
variable {l : List Seat} {j : Nat} {s : Seat} {W : World} {listed : Array Bool} {a : Act} {w : World}
theorem InsG.same (h : InsG l j s W listed a w) {i : Nat} (hne : i ≠ 0 ∧ i ≠ 5 ∧ i ≠ 11 ∧ i ≠ 12 ∧ i ≠ 17) (hls : i < listed.size) {a' : Act} (h49 : a'.tmps[49]? = a.tmps[49]?) (h54 : a'.tmps[54]? = a.tmps[54]?) (h60 : a'.tmps[60]? = a.tmps[60]?) (h61 : a'.tmps[61]? = a.tmps[61]?) (h66 : a'.tmps[66]? = a.tmps[66]?) : InsG l j s W (listed.setIfInBounds i true) a' w := by
  unfold InsG
  rw [getD_set hls, getD_set hls, getD_set hls, getD_set hls, getD_set hls, if_neg hne.1, if_neg hne.2.1, if_neg hne.2.2.1, if_neg hne.2.2.2.1, if_neg hne.2.2.2.2, h49, h54, h60, h61, h66]
  exact h
theorem InsG.first (h : InsG l j s W listed a w) (hls : 0 < listed.size) (hsz : a.tmps.size = 136) (n5 : listed.getD 5 false = false) (n12 : listed.getD 12 false = false) (n17 : listed.getD 17 false = false) (hb : W.heap.size ≤ w.heap.size) :
    InsG l j s W (listed.setIfInBounds 0 true) { tmps := a.tmps.setIfInBounds 49 (.slice (some ⟨w.heap.size, 0, none⟩) 0 0), defers := a.defers } (w.alloc (.cells #[] 45)) := by
  obtain ⟨rv, g7, _, _, _, _, h11⟩ := h
  refine ⟨.slice (some ⟨w.heap.size, 0, none⟩) 0 0, g7, ?_, ?_, ?_, ?_, ?_⟩
  · rw [getD_set hls, if_neg (by omega), n17]; intro h; cases h
  · rw [getD_set hls, if_neg (by omega), getD_set hls, if_neg (by omega), n12]; intro _ h; cases h
  · rw [getD_set hls, if_neg (by omega), getD_set hls, if_neg (by omega), n5]; intro _ h; cases h
  · intro _ _
    exact ⟨by simp [hsz], ⟨rfl, .inr ⟨_, 0, #[], rfl, hb, Box.fresh w 45 #[], Nat.le_refl _, by decide, rfl, rfl⟩⟩⟩
  · rw [getD_set hls, if_neg (by omega), getD_set hls, if_neg (by omega)]
    intro h1 h2
    obtain ⟨q1, q2, _⟩ := h11 h1 h2
    exact ⟨by simpa using q1, q2.next (below_al w _), fun _ hc => by have := q2.lt; simp [Value.ownBlock] at hc; omega⟩
theorem InsG.one (h : InsG l j s W listed a w) (hls : 11 < listed.size) (hsz : a.tmps.size = 136) (n12 : listed.getD 12 false = false) (n17 : listed.getD 17 false = false) :
    InsG l j s W (listed.setIfInBounds 11 true) { tmps := a.tmps.setIfInBounds 60 (.slice (some ⟨w.heap.size, 0, none⟩) 1 1), defers := a.defers } (w.alloc (.cells #[.int .i64 s.row, .int .i64 s.x, .int .i64 s.y, .int .i64 s.kind] 45)) := by
  obtain ⟨rv, g7, _, _, h5, h0, h11⟩ := h
  refine ⟨rv, w.heap.size, ?_, ?_, ?_, ?_, ?_⟩
  · rw [getD_set hls, if_neg (by omega), n17]; intro h; cases h
  · rw [getD_set hls, if_neg (by omega), getD_set hls, if_neg (by omega), n12]; intro _ h; cases h
  · rw [getD_set hls, if_neg (by omega), getD_set hls, if_neg (by omega)]
    intro h1 h2
    exact ⟨by simpa using (h5 h1 h2).1, row_next (h5 h1 h2).2 (below_al w _)⟩
  · rw [getD_set hls, if_neg (by omega), getD_set hls, if_neg (by omega)]
    intro h1 h2
    exact ⟨by simpa using (h0 h1 h2).1, row_next (h0 h1 h2).2 (below_al w _)⟩
  · intro _ _
    refine ⟨by simp [hsz], Box.fresh w 45 _, ?_⟩
    rw [getD_set hls, if_neg (by omega)]
    intro h
    cases h5' : listed.getD 5 false with
    | true => exact row_ne_size (h5 n12 h5').2
    | false => exact row_ne_size (h0 h5' h).2
theorem InsG.copied (hls : 5 < listed.size) (hsz : a.tmps.size = 136) (n12 : listed.getD 12 false = false) (n17 : listed.getD 17 false = false) (y0 : listed.getD 0 false = true) (n5 : listed.getD 5 false = false) {rv v2 : Value} {w2 : World} {xs : List Value} {g7 : Nat} (hown : w.ownsRow W.heap.size 45 4 rv 0 xs) (hown2 : w2.ownsRow W.heap.size 45 4 v2 j ((l.take j).flatMap seatC)) (hgr : w.grownBy w2 rv.ownBlock) (hloc : v2.ownBlock = rv.ownBlock ∨ v2.ownBlock = some w.heap.size)
    (h11 : listed.getD 11 false = true → listed.getD 12 false = false → a.tmps[60]? = some (.slice (some ⟨g7, 0, none⟩) 1 1) ∧ Box w g7 45 #[.int .i64 s.row, .int .i64 s.x, .int .i64 s.y, .int .i64 s.kind] ∧ (listed.getD 0 false = true → rv.ownBlock ≠ some g7)) :
    InsG l j s W (listed.setIfInBounds 5 true) { tmps := a.tmps.setIfInBounds 54 v2, defers := a.defers } w2 := by
  refine ⟨v2, g7, ?_, ?_, ?_, ?_, ?_⟩
  · rw [getD_set hls, if_neg (by omega), n17]; intro h; cases h
  · rw [getD_set hls, if_neg (by omega), getD_set hls, if_neg (by omega), n12]; intro _ h; cases h
  · intro _ _; exact ⟨by simp [hsz], hown2⟩
  · rw [getD_set hls, if_pos rfl]; intro h; cases h
  · rw [getD_set hls, if_neg (by omega), getD_set hls, if_neg (by omega)]
    intro h1 h2
    obtain ⟨q1, q2, q3⟩ := h11 h1 h2
    exact ⟨by simpa using q1, q2.grown hgr (fun h => q3 y0 h.symm), fun _ => loc_ne (q3 y0) q2.lt hloc⟩
theorem InsG.put (hls : 12 < listed.size) (hsz : a.tmps.size = 136) (n17 : listed.getD 17 false = false) (y5 : listed.getD 5 false = true) {v2 : Value} {w2 : World} (hown2 : w2.ownsRow W.heap.size 45 4 v2 (j + 1) ((l.take j).flatMap seatC ++ seatC s)) :
    InsG l j s W (listed.setIfInBounds 12 true) { tmps := a.tmps.setIfInBounds 61 v2, defers := a.defers } w2 := by
  refine ⟨v2, 0, ?_, ?_, ?_, ?_, ?_⟩
  · rw [getD_set hls, if_neg (by omega), n17]; intro h; cases h
  · intro _ _; exact ⟨by simp [hsz], hown2⟩
  · rw [getD_set hls, if_pos rfl]; intro h; cases h
  · rw [getD_set hls, if_neg (by omega), y5]; intro h; cases h
  · rw [getD_set hls, if_neg (by omega), getD_set hls, if_pos rfl]; intro _ h; cases h
theorem InsG.all (hls : 17 < listed.size) (hsz : a.tmps.size = 136) (y12 : listed.getD 12 false = true) (y5 : listed.getD 5 false = true) {v2 : Value} {w2 : World} (hown2 : w2.ownsRow W.heap.size 45 4 v2 (l.length + 1) ((l.take j).flatMap seatC ++ seatC s ++ (l.drop j).flatMap seatC)) :
    InsG l j s W (listed.setIfInBounds 17 true) { tmps := a.tmps.setIfInBounds 66 v2, defers := a.defers } w2 := by
  refine ⟨v2, 0, ?_, ?_, ?_, ?_, ?_⟩
  · intro _; exact ⟨by simp [hsz], hown2⟩
  · rw [getD_set hls, if_pos rfl]; intro h; cases h
  · rw [getD_set hls, if_neg (by omega), y12]; intro h; cases h
  · rw [getD_set hls, if_neg (by omega), y5]; intro h; cases h
  · rw [getD_set hls, if_neg (by omega), getD_set hls, if_neg (by omega), y12]; intro _ h; cases h
def opsInsn : Array Oper := #[{ dst := some 49, op := Op.buildSlice 30 0 #[], type := 30, pos := "ref.go:225", after := #[], guard := none }, { dst := some 50, op := Op.fieldAddr 33 (Operand.tmp 4) 0, type := 0, pos := "ref.go:225", after := #[], guard := none }, { dst := some 51, op := Op.load 30 (Operand.tmp 50), type := 30, pos := "ref.go:225", after := #[{ on := 1, ground := Ground.data }], guard := none }, { dst := some 52, op := Op.move (Operand.tmp 6), type := 3, pos := "ref.go:225", after := #[], guard := none }, { dst := some 53, op := Op.slice 30 (Operand.tmp 51) none (some (Operand.tmp 52)) none, type := 30, pos := "ref.go:225", after := #[{ on := 2, ground := Ground.data }, { on := 3, ground := Ground.data }], guard := none }, { dst := some 54, op := Op.call { callee := Callee.builtin Builtin.append, args := #[Operand.tmp 49, Operand.tmp 53], argTypes := #[30, 30] }, type := 30, pos := "ref.go:225", after := #[{ on := 0, ground := Ground.data }, { on := 4, ground := Ground.data }], guard := none }, { dst := some 55, op := Op.fieldAddr 33 (Operand.tmp 1) 0, type := 0, pos := "ref.go:225", after := #[], guard := none }, { dst := some 56, op := Op.load 30 (Operand.tmp 55), type := 30, pos := "ref.go:225", after := #[{ on := 6, ground := Ground.data }], guard := none }, { dst := some 57, op := Op.move (Operand.tmp 5), type := 3, pos := "ref.go:225", after := #[], guard := none }, { dst := some 58, op := Op.indexAddr 30 (Operand.tmp 56) (Operand.tmp 57), type := 0, pos := "ref.go:225", after := #[{ on := 7, ground := Ground.data }, { on := 8, ground := Ground.data }], guard := none }, { dst := some 59, op := Op.load 45 (Operand.tmp 58), type := 45, pos := "ref.go:225", after := #[{ on := 9, ground := Ground.data }], guard := none }, { dst := some 60, op := Op.buildSlice 30 1 #[(0, Operand.tmp 59)], type := 30, pos := "ref.go:225", after := #[{ on := 10, ground := Ground.data }], guard := none }, { dst := some 61, op := Op.call { callee := Callee.builtin Builtin.append, args := #[Operand.tmp 54, Operand.tmp 60], argTypes := #[30, 30] }, type := 30, pos := "ref.go:225", after := #[{ on := 5, ground := Ground.data }, { on := 11, ground := Ground.data }, { on := 5, ground := Ground.chain }], guard := none }, { dst := some 62, op := Op.fieldAddr 33 (Operand.tmp 4) 0, type := 0, pos := "ref.go:225", after := #[], guard := none }, { dst := some 63, op := Op.load 30 (Operand.tmp 62), type := 30, pos := "ref.go:225", after := #[{ on := 13, ground := Ground.data }], guard := none }, { dst := some 64, op := Op.move (Operand.tmp 6), type := 3, pos := "ref.go:225", after := #[], guard := none }, { dst := some 65, op := Op.slice 30 (Operand.tmp 63) (some (Operand.tmp 64)) none none, type := 30, pos := "ref.go:225", after := #[{ on := 14, ground := Ground.data }, { on := 15, ground := Ground.data }], guard := none }, { dst := some 66, op := Op.call { callee := Callee.builtin Builtin.append, args := #[Operand.tmp 61, Operand.tmp 65], argTypes := #[30, 30] }, type := 30, pos := "ref.go:225", after := #[{ on := 12, ground := Ground.data }, { on := 16, ground := Ground.data }, { on := 12, ground := Ground.chain }], guard := none }, { dst := some 67, op := Op.fieldAddr 33 (Operand.tmp 4) 0, type := 0, pos := "ref.go:225", after := #[{ on := 0, ground := Ground.phase }, { on := 1, ground := Ground.phase }, { on := 2, ground := Ground.phase }, { on := 3, ground := Ground.phase }, { on := 4, ground := Ground.phase }, { on := 5, ground := Ground.phase }, { on := 6, ground := Ground.phase }, { on := 7, ground := Ground.phase }, { on := 8, ground := Ground.phase }, { on := 9, ground := Ground.phase }, { on := 10, ground := Ground.phase }, { on := 11, ground := Ground.phase }, { on := 12, ground := Ground.phase }, { on := 13, ground := Ground.phase }, { on := 14, ground := Ground.phase }, { on := 15, ground := Ground.phase }, { on := 16, ground := Ground.phase }, { on := 17, ground := Ground.phase }], guard := none }, { dst := none, op := Op.store 30 (Operand.tmp 67) (Operand.tmp 66), type := 0, pos := "ref.go:225", after := #[{ on := 18, ground := Ground.data }, { on := 17, ground := Ground.data }, { on := 17, ground := Ground.chain }, { on := 0, ground := Ground.phase }, { on := 1, ground := Ground.phase }, { on := 2, ground := Ground.phase }, { on := 3, ground := Ground.phase }, { on := 4, ground := Ground.phase }, { on := 5, ground := Ground.phase }, { on := 6, ground := Ground.phase }, { on := 7, ground := Ground.phase }, { on := 8, ground := Ground.phase }, { on := 9, ground := Ground.phase }, { on := 10, ground := Ground.phase }, { on := 11, ground := Ground.phase }, { on := 12, ground := Ground.phase }, { on := 13, ground := Ground.phase }, { on := 14, ground := Ground.phase }, { on := 15, ground := Ground.phase }, { on := 16, ground := Ground.phase }, { on := 17, ground := Ground.phase }], guard := none }]
def dstInsn : List (Option Nat) := [some 49, some 50, some 51, some 52, some 53, some 54, some 55, some 56, some 57, some 58, some 59, some 60, some 61, some 62, some 63, some 64, some 65, some 66, some 67, none]
theorem dstInsn_apart : dstInsn.Pairwise (fun x y => x = none ∨ x ≠ y) := by decide
set_option maxHeartbeats 16000000 in
theorem region12_8n (Q : Exit → Act → World → Prop) (i n vb vo vc : Nat) (hin : i < n) (r x y kk : Int) (v1 v2 v3 v4 w1 w2' w3 w4 : Value) (b1 b4 : Nat) (W0 : World)
    (hV0 : Box W0 b1 33 #[.slice (some ⟨vb, vo, none⟩) n vc, v1, v2, v3, v4]) (hT0 : SeatAt W0 vb (vo + i * 4) r x y kk) (hU0 : Box W0 b4 33 #[.slice none 0 0, w1, w2', w3, w4])
    (A0 A2 A3 A7 A8 A9 B0 B1 B2 B3 B4 B5 B6 B7 B8 B9 C0 C1 C2 C3 C4 C5 C6 C7 C8 C9 D0 D1 D2 D3 D4 D5 D6 D7 D8 D9 E0 E1 E2 E3 E4 E5 E6 E7 E8 E9 F0 F1 F2 F3 F4 F5 F6 F7 F8 F9 G0 G1 G2 G3 G4 G5 G6 G7 G8 G9 H0 H1 H2 H3 H4 H5 H6 H7 H8 H9 I0 I1 I2 I3 I4 I5 I6 I7 I8 I9 J0 J1 J2 J3 J4 J5 J6 J7 J8 J9 K0 K1 K2 K3 K4 K5 K6 K7 K8 K9 L0 L1 L2 L3 L4 L5 L6 L7 L8 L9 M0 M1 M2 M3 M4 M5 M6 M7 M8 M9 N0 N1 N2 N3 N4 N5 : Value)
    (hQ : ∀ W' x0 x5 x11 x12 a13 c13, Below W0.heap.size W0 W' → W'.ownsRow W0.heap.size 45 4 (.slice a13 1 c13) (0 + 1) (seatC ⟨r, x, y, kk⟩) → Q .normal { tmps := (A0::.pointer (some ⟨b1, 0, none⟩)::A2::A3::.pointer (some ⟨b4, 0, none⟩)::.int .i64 (i : Int)::.int .i64 0::A7::A8::A9::B0::B1::B2::B3::B4::B5::B6::B7::B8::B9::C0::C1::C2::C3::C4::C5::C6::C7::C8::C9::D0::D1::D2::D3::D4::D5::D6::D7::D8::D9::E0::E1::E2::E3::E4::E5::E6::E7::E8::x0::.pointer (some ⟨b4, 0, none⟩)::.slice none 0 0::.int .i64 0::.slice none 0 0::x5::.pointer (some ⟨b1, 0, none⟩)::.slice (some ⟨vb, vo, none⟩) n vc::.int .i64 (i : Int)::.pointer (some ⟨vb, vo + i * 4, none⟩)::seatV r x y kk::x11::x12::.pointer (some ⟨b4, 0, none⟩)::.slice none 0 0::.int .i64 0::.slice none 0 0::.slice a13 1 c13::.pointer (some ⟨b4, 0, none⟩)::G8::G9::H0::H1::H2::H3::H4::H5::H6::H7::H8::H9::I0::I1::I2::I3::I4::I5::I6::I7::I8::I9::J0::J1::J2::J3::J4::J5::J6::J7::J8::J9::K0::K1::K2::K3::K4::K5::K6::K7::K8::K9::L0::L1::L2::L3::L4::L5::L6::L7::L8::L9::M0::M1::M2::M3::M4::M5::M6::M7::M8::M9::N0::N1::N2::N3::N4::N5::[]).toArray, defers := [] } (W'.setCell ⟨b4, 0, none⟩ (.slice a13 1 c13))) :
    (Code.region 8 #[{ dst := some 49, op := Op.buildSlice 30 0 #[], type := 30, pos := "ref.go:225", after := #[], guard := none }, { dst := some 50, op := Op.fieldAddr 33 (Operand.tmp 4) 0, type := 0, pos := "ref.go:225", after := #[], guard := none }, { dst := some 51, op := Op.load 30 (Operand.tmp 50), type := 30, pos := "ref.go:225", after := #[{ on := 1, ground := Ground.data }], guard := none }, { dst := some 52, op := Op.move (Operand.tmp 6), type := 3, pos := "ref.go:225", after := #[], guard := none }, { dst := some 53, op := Op.slice 30 (Operand.tmp 51) none (some (Operand.tmp 52)) none, type := 30, pos := "ref.go:225", after := #[{ on := 2, ground := Ground.data }, { on := 3, ground := Ground.data }], guard := none }, { dst := some 54, op := Op.call { callee := Callee.builtin Builtin.append, args := #[Operand.tmp 49, Operand.tmp 53], argTypes := #[30, 30] }, type := 30, pos := "ref.go:225", after := #[{ on := 0, ground := Ground.data }, { on := 4, ground := Ground.data }], guard := none }, { dst := some 55, op := Op.fieldAddr 33 (Operand.tmp 1) 0, type := 0, pos := "ref.go:225", after := #[], guard := none }, { dst := some 56, op := Op.load 30 (Operand.tmp 55), type := 30, pos := "ref.go:225", after := #[{ on := 6, ground := Ground.data }], guard := none }, { dst := some 57, op := Op.move (Operand.tmp 5), type := 3, pos := "ref.go:225", after := #[], guard := none }, { dst := some 58, op := Op.indexAddr 30 (Operand.tmp 56) (Operand.tmp 57), type := 0, pos := "ref.go:225", after := #[{ on := 7, ground := Ground.data }, { on := 8, ground := Ground.data }], guard := none }, { dst := some 59, op := Op.load 45 (Operand.tmp 58), type := 45, pos := "ref.go:225", after := #[{ on := 9, ground := Ground.data }], guard := none }, { dst := some 60, op := Op.buildSlice 30 1 #[(0, Operand.tmp 59)], type := 30, pos := "ref.go:225", after := #[{ on := 10, ground := Ground.data }], guard := none }, { dst := some 61, op := Op.call { callee := Callee.builtin Builtin.append, args := #[Operand.tmp 54, Operand.tmp 60], argTypes := #[30, 30] }, type := 30, pos := "ref.go:225", after := #[{ on := 5, ground := Ground.data }, { on := 11, ground := Ground.data }, { on := 5, ground := Ground.chain }], guard := none }, { dst := some 62, op := Op.fieldAddr 33 (Operand.tmp 4) 0, type := 0, pos := "ref.go:225", after := #[], guard := none }, { dst := some 63, op := Op.load 30 (Operand.tmp 62), type := 30, pos := "ref.go:225", after := #[{ on := 13, ground := Ground.data }], guard := none }, { dst := some 64, op := Op.move (Operand.tmp 6), type := 3, pos := "ref.go:225", after := #[], guard := none }, { dst := some 65, op := Op.slice 30 (Operand.tmp 63) (some (Operand.tmp 64)) none none, type := 30, pos := "ref.go:225", after := #[{ on := 14, ground := Ground.data }, { on := 15, ground := Ground.data }], guard := none }, { dst := some 66, op := Op.call { callee := Callee.builtin Builtin.append, args := #[Operand.tmp 61, Operand.tmp 65], argTypes := #[30, 30] }, type := 30, pos := "ref.go:225", after := #[{ on := 12, ground := Ground.data }, { on := 16, ground := Ground.data }, { on := 12, ground := Ground.chain }], guard := none }, { dst := some 67, op := Op.fieldAddr 33 (Operand.tmp 4) 0, type := 0, pos := "ref.go:225", after := #[{ on := 0, ground := Ground.phase }, { on := 1, ground := Ground.phase }, { on := 2, ground := Ground.phase }, { on := 3, ground := Ground.phase }, { on := 4, ground := Ground.phase }, { on := 5, ground := Ground.phase }, { on := 6, ground := Ground.phase }, { on := 7, ground := Ground.phase }, { on := 8, ground := Ground.phase }, { on := 9, ground := Ground.phase }, { on := 10, ground := Ground.phase }, { on := 11, ground := Ground.phase }, { on := 12, ground := Ground.phase }, { on := 13, ground := Ground.phase }, { on := 14, ground := Ground.phase }, { on := 15, ground := Ground.phase }, { on := 16, ground := Ground.phase }, { on := 17, ground := Ground.phase }], guard := none }, { dst := none, op := Op.store 30 (Operand.tmp 67) (Operand.tmp 66), type := 0, pos := "ref.go:225", after := #[{ on := 18, ground := Ground.data }, { on := 17, ground := Ground.data }, { on := 17, ground := Ground.chain }, { on := 0, ground := Ground.phase }, { on := 1, ground := Ground.phase }, { on := 2, ground := Ground.phase }, { on := 3, ground := Ground.phase }, { on := 4, ground := Ground.phase }, { on := 5, ground := Ground.phase }, { on := 6, ground := Ground.phase }, { on := 7, ground := Ground.phase }, { on := 8, ground := Ground.phase }, { on := 9, ground := Ground.phase }, { on := 10, ground := Ground.phase }, { on := 11, ground := Ground.phase }, { on := 12, ground := Ground.phase }, { on := 13, ground := Ground.phase }, { on := 14, ground := Ground.phase }, { on := 15, ground := Ground.phase }, { on := 16, ground := Ground.phase }, { on := 17, ground := Ground.phase }], guard := none }] true).wp Tryz.prog Q { tmps := (A0::.pointer (some ⟨b1, 0, none⟩)::A2::A3::.pointer (some ⟨b4, 0, none⟩)::.int .i64 (i : Int)::.int .i64 0::A7::A8::A9::B0::B1::B2::B3::B4::B5::B6::B7::B8::B9::C0::C1::C2::C3::C4::C5::C6::C7::C8::C9::D0::D1::D2::D3::D4::D5::D6::D7::D8::D9::E0::E1::E2::E3::E4::E5::E6::E7::E8::E9::F0::F1::F2::F3::F4::F5::F6::F7::F8::F9::G0::G1::G2::G3::G4::G5::G6::G7::G8::G9::H0::H1::H2::H3::H4::H5::H6::H7::H8::H9::I0::I1::I2::I3::I4::I5::I6::I7::I8::I9::J0::J1::J2::J3::J4::J5::J6::J7::J8::J9::K0::K1::K2::K3::K4::K5::K6::K7::K8::K9::L0::L1::L2::L3::L4::L5::L6::L7::L8::L9::M0::M1::M2::M3::M4::M5::M6::M7::M8::M9::N0::N1::N2::N3::N4::N5::[]).toArray, defers := [] } W0 := by
  obtain ⟨i0, hi, hz0, hz1, hz2⟩ := info34
  obtain ⟨W, hWd⟩ : ∃ W, W = W0.drew := ⟨_, rfl⟩
  have hszd : W.heap.size = W0.heap.size := by rw [hWd]; rfl
  have hbd : Below W0.heap.size W0 W := by rw [hWd]; exact (Below.refl _ W0).drew
  have hV := hV0.next hbd
  have hT := hT0.next hbd
  have hU := hU0.next hbd
  have hiz : (i : Int) < (n : Int) := by omega
  have hn := dstInsn_apart
  show (Code.region 8 opsInsn true).wp Tryz.prog Q _ W0
  refine wp_region_inv (by kernel_rfl) (fun listed a w => Slots { tmps := (A0::.pointer (some ⟨b1, 0, none⟩)::A2::A3::.pointer (some ⟨b4, 0, none⟩)::.int .i64 (i : Int)::.int .i64 0::A7::A8::A9::B0::B1::B2::B3::B4::B5::B6::B7::B8::B9::C0::C1::C2::C3::C4::C5::C6::C7::C8::C9::D0::D1::D2::D3::D4::D5::D6::D7::D8::D9::E0::E1::E2::E3::E4::E5::E6::E7::E8::E9::F0::F1::F2::F3::F4::F5::F6::F7::F8::F9::G0::G1::G2::G3::G4::G5::G6::G7::G8::G9::H0::H1::H2::H3::H4::H5::H6::H7::H8::H9::I0::I1::I2::I3::I4::I5::I6::I7::I8::I9::J0::J1::J2::J3::J4::J5::J6::J7::J8::J9::K0::K1::K2::K3::K4::K5::K6::K7::K8::K9::L0::L1::L2::L3::L4::L5::L6::L7::L8::L9::M0::M1::M2::M3::M4::M5::M6::M7::M8::M9::N0::N1::N2::N3::N4::N5::[]).toArray, defers := [] } dstInsn [none, some (.pointer (some ⟨b4, 0, none⟩)), some (.slice none 0 0), some (.int .i64 0), some (.slice none 0 0), none, some (.pointer (some ⟨b1, 0, none⟩)), some (.slice (some ⟨vb, vo, none⟩) n vc), some (.int .i64 (i : Int)), some (.pointer (some ⟨vb, vo + i * 4, none⟩)), some (seatV r x y kk), none, none, some (.pointer (some ⟨b4, 0, none⟩)), some (.slice none 0 0), some (.int .i64 0), some (.slice none 0 0), none, some (.pointer (some ⟨b4, 0, none⟩)), none] listed a ∧ ((listed.getD 19 false = false ∧ Below W.heap.size W w ∧ InsG [] 0 ⟨r, x, y, kk⟩ W listed a w) ∨ (listed.getD 19 false = true ∧ ∃ w1 a13 c13, w = w1.setCell ⟨b4, 0, none⟩ (.slice a13 1 c13) ∧ Below W.heap.size W w1 ∧ a.tmps[66]? = some (.slice a13 1 c13) ∧ w1.ownsRow W.heap.size 45 4 (.slice a13 1 c13) (0 + 1) (seatC ⟨r, x, y, kk⟩)))) (by kernel_rfl) ?_ ?_ ?_
  · refine ⟨Slots.start _ _ _ _, .inl ⟨start_false _ _, by rw [hWd]; exact Below.refl _ _, .slice none 0 0, 0, ?_, ?_, ?_, ?_, ?_⟩⟩
    all_goals first | (intro _ h; rw [start_false] at h; cases h; done) | (intro h; rw [start_false] at h; cases h; done) | (trace_state; skip)
  · intro listed a w i' hsl hilt hl hd hcl ⟨hS, hI⟩
    have hsz : Hid (a.tmps.size = 136) := hS.size
    have hls : i' < listed.size := by rw [hsl]; exact hilt
    have hcase : i' = 0 ∨ i' = 1 ∨ i' = 2 ∨ i' = 3 ∨ i' = 4 ∨ i' = 5 ∨ i' = 6 ∨ i' = 7 ∨ i' = 8 ∨ i' = 9 ∨ i' = 10 ∨ i' = 11 ∨ i' = 12 ∨ i' = 13 ∨ i' = 14 ∨ i' = 15 ∨ i' = 16 ∨ i' = 17 ∨ i' = 18 ∨ i' = 19 := by
      have : i' < 20 := hilt
      omega
    rcases hcase with rfl | rfl | rfl | rfl | rfl | rfl | rfl | rfl | rfl | rfl | rfl | rfl | rfl | rfl | rfl | rfl | rfl | rfl | rfl | rfl
    ·
      refine wpOp_step (o := { dst := some 49, op := Op.buildSlice 30 0 #[], type := 30, pos := "ref.go:225", after := #[], guard := none }) rfl ?_
      intro K hK
      have h19 : listed.getD 19 false = false := by
        cases h : listed.getD 19 false with
        | false => rfl
        | true => rw [hcl 19 0 h (of_decide_eq_true (by kernel_rfl))] at hl; cases hl
      obtain ⟨hb, hG⟩ : Below W.heap.size W w ∧ InsG [] 0 ⟨r, x, y, kk⟩ W listed a w := by
        rcases hI with ⟨_, hb, hG⟩ | ⟨h, _⟩
        · exact ⟨hb, hG⟩
        · rw [h19] at h; cases h
      have n5 : listed.getD 5 false = false := by
        cases h : listed.getD 5 false with
        | false => rfl
        | true => rw [hcl 5 0 h (of_decide_eq_true (by kernel_rfl))] at hl; cases hl
      have n12 : listed.getD 12 false = false := by
        cases h : listed.getD 12 false with
        | false => rfl
        | true => rw [hcl 12 5 h (of_decide_eq_true (by kernel_rfl))] at n5; cases n5
      have n17 : listed.getD 17 false = false := by
        cases h : listed.getD 17 false with
        | false => rfl
        | true => rw [hcl 17 12 h (of_decide_eq_true (by kernel_rfl))] at n12; cases n12
      go_simp
      refine hK _ _ ⟨(hS.put hn 0 49 _ rfl (by show 49 < 136; omega) (fun u h => by injection h with h; cases h)), .inl ⟨by rw [getD_set hls, if_neg (by omega)]; exact h19, hb.alloc hb.size _, ?_⟩⟩
      exact hG.first hls hsz.out n5 n12 n17 hb.size
    ·
      refine wpOp_step (o := { dst := some 50, op := Op.fieldAddr 33 (Operand.tmp 4) 0, type := 0, pos := "ref.go:225", after := #[], guard := none }) rfl ?_
      intro K hK
      have h19 : listed.getD 19 false = false := by
        cases h : listed.getD 19 false with
        | false => rfl
        | true => rw [hcl 19 1 h (of_decide_eq_true (by kernel_rfl))] at hl; cases hl
      obtain ⟨hb, hG⟩ : Below W.heap.size W w ∧ InsG [] 0 ⟨r, x, y, kk⟩ W listed a w := by
        rcases hI with ⟨_, hb, hG⟩ | ⟨h, _⟩
        · exact ⟨hb, hG⟩
        · rw [h19] at h; cases h
      have q4 : a.tmps[4]? = some (.pointer (some ⟨b4, 0, none⟩)) := (hS.keep 4 (of_decide_eq_true (by kernel_rfl))).trans rfl
      go_simp
      exact hK _ _ ⟨(hS.put hn 1 50 _ rfl (by show 50 < 136; omega) (fun u h => by injection h with h; injection h with h; exact h.symm)), .inl ⟨by rw [getD_set hls, if_neg (by omega)]; exact h19, hb, hG.same (by omega) hls (by simp) (by simp) (by simp) (by simp) (by simp)⟩⟩
    ·
      refine wpOp_step (o := { dst := some 51, op := Op.load 30 (Operand.tmp 50), type := 30, pos := "ref.go:225", after := #[{ on := 1, ground := Ground.data }], guard := none }) rfl ?_
      intro K hK
      have h19 : listed.getD 19 false = false := by
        cases h : listed.getD 19 false with
        | false => rfl
        | true => rw [hcl 19 2 h (of_decide_eq_true (by kernel_rfl))] at hl; cases hl
      obtain ⟨hb, hG⟩ : Below W.heap.size W w ∧ InsG [] 0 ⟨r, x, y, kk⟩ W listed a w := by
        rcases hI with ⟨_, hb, hG⟩ | ⟨h, _⟩
        · exact ⟨hb, hG⟩
        · rw [h19] at h; cases h
      have q50 : a.tmps[50]? = some (.pointer (some ⟨b4, 0, none⟩)) := hS.val 1 50 _ (hd 1 (of_decide_eq_true (by kernel_rfl))) rfl rfl
      have m0 := (hU.next hb).cell 0 _ rfl
      go_simp
      exact hK _ _ ⟨(hS.put hn 2 51 _ rfl (by show 51 < 136; omega) (fun u h => by injection h with h; injection h with h; exact h.symm)), .inl ⟨by rw [getD_set hls, if_neg (by omega)]; exact h19, hb, hG.same (by omega) hls (by simp) (by simp) (by simp) (by simp) (by simp)⟩⟩
    ·
      refine wpOp_step (o := { dst := some 52, op := Op.move (Operand.tmp 6), type := 3, pos := "ref.go:225", after := #[], guard := none }) rfl ?_
      intro K hK
      have h19 : listed.getD 19 false = false := by
        cases h : listed.getD 19 false with
        | false => rfl
        | true => rw [hcl 19 3 h (of_decide_eq_true (by kernel_rfl))] at hl; cases hl
      obtain ⟨hb, hG⟩ : Below W.heap.size W w ∧ InsG [] 0 ⟨r, x, y, kk⟩ W listed a w := by
        rcases hI with ⟨_, hb, hG⟩ | ⟨h, _⟩
        · exact ⟨hb, hG⟩
        · rw [h19] at h; cases h
      have q6 : a.tmps[6]? = some (.int .i64 0) := (hS.keep 6 (of_decide_eq_true (by kernel_rfl))).trans rfl
      go_simp
      exact hK _ _ ⟨(hS.put hn 3 52 _ rfl (by show 52 < 136; omega) (fun u h => by injection h with h; injection h with h; exact h.symm)), .inl ⟨by rw [getD_set hls, if_neg (by omega)]; exact h19, hb, hG.same (by omega) hls (by simp) (by simp) (by simp) (by simp) (by simp)⟩⟩
    ·
      refine wpOp_step (o := { dst := some 53, op := Op.slice 30 (Operand.tmp 51) none (some (Operand.tmp 52)) none, type := 30, pos := "ref.go:225", after := #[{ on := 2, ground := Ground.data }, { on := 3, ground := Ground.data }], guard := none }) rfl ?_
      intro K hK
      have h19 : listed.getD 19 false = false := by
        cases h : listed.getD 19 false with
        | false => rfl
        | true => rw [hcl 19 4 h (of_decide_eq_true (by kernel_rfl))] at hl; cases hl
      obtain ⟨hb, hG⟩ : Below W.heap.size W w ∧ InsG [] 0 ⟨r, x, y, kk⟩ W listed a w := by
        rcases hI with ⟨_, hb, hG⟩ | ⟨h, _⟩
        · exact ⟨hb, hG⟩
        · rw [h19] at h; cases h
      have q51 : a.tmps[51]? = some (.slice none 0 0) := hS.val 2 51 _ (hd 2 (of_decide_eq_true (by kernel_rfl))) rfl rfl
      have q52 : a.tmps[52]? = some (.int .i64 0) := hS.val 3 52 _ (hd 3 (of_decide_eq_true (by kernel_rfl))) rfl rfl
      go_simp
      exact hK _ _ ⟨(hS.put hn 4 53 _ rfl (by show 53 < 136; omega) (fun u h => by injection h with h; injection h with h; exact h.symm)), .inl ⟨by rw [getD_set hls, if_neg (by omega)]; exact h19, hb, hG.same (by omega) hls (by simp) (by simp) (by simp) (by simp) (by simp)⟩⟩
    ·
      refine wpOp_step (o := { dst := some 54, op := Op.call { callee := Callee.builtin Builtin.append, args := #[Operand.tmp 49, Operand.tmp 53], argTypes := #[30, 30] }, type := 30, pos := "ref.go:225", after := #[{ on := 0, ground := Ground.data }, { on := 4, ground := Ground.data }], guard := none }) rfl ?_
      intro K hK
      have h19 : listed.getD 19 false = false := by
        cases h : listed.getD 19 false with
        | false => rfl
        | true => rw [hcl 19 5 h (of_decide_eq_true (by kernel_rfl))] at hl; cases hl
      obtain ⟨hb, hG⟩ : Below W.heap.size W w ∧ InsG [] 0 ⟨r, x, y, kk⟩ W listed a w := by
        rcases hI with ⟨_, hb, hG⟩ | ⟨h, _⟩
        · exact ⟨hb, hG⟩
        · rw [h19] at h; cases h
      have n12 : listed.getD 12 false = false := by
        cases h : listed.getD 12 false with
        | false => rfl
        | true => rw [hcl 12 5 h (of_decide_eq_true (by kernel_rfl))] at hl; cases hl
      have n17 : listed.getD 17 false = false := by
        cases h : listed.getD 17 false with
        | false => rfl
        | true => rw [hcl 17 12 h (of_decide_eq_true (by kernel_rfl))] at n12; cases n12
      obtain ⟨rv, g7, _, _, _, h0, h11⟩ := hG
      obtain ⟨e0, hown⟩ := h0 hl (hd 0 (of_decide_eq_true (by kernel_rfl)))
      obtain ⟨ra, rc, rfl⟩ := row_slice hown
      have q53 : a.tmps[53]? = some (.slice none 0 0) := hS.val 4 53 _ (hd 4 (of_decide_eq_true (by kernel_rfl))) rfl rfl
      refine step_append_no rfl 30 (by decide) rfl _ _ rfl _ _ _ (eval_of e0) (row_cap hown) (eval_of q53) ?_
      refine hK _ _ ⟨(hS.put hn 5 54 _ rfl (by show 54 < 136; omega) (fun u h => by injection h with h; cases h)), .inl ⟨by rw [getD_set hls, if_neg (by omega)]; exact h19, hb, ?_⟩⟩
      exact InsG.copied hls hsz.out n12 n17 (hd 0 (of_decide_eq_true (by kernel_rfl))) hl hown hown ⟨rfl, rfl, rfl, Nat.le_refl _, fun _ _ _ => rfl⟩ (.inl rfl) h11
    ·
      refine wpOp_step (o := { dst := some 55, op := Op.fieldAddr 33 (Operand.tmp 1) 0, type := 0, pos := "ref.go:225", after := #[], guard := none }) rfl ?_
      intro K hK
      have h19 : listed.getD 19 false = false := by
        cases h : listed.getD 19 false with
        | false => rfl
        | true => rw [hcl 19 6 h (of_decide_eq_true (by kernel_rfl))] at hl; cases hl
      obtain ⟨hb, hG⟩ : Below W.heap.size W w ∧ InsG [] 0 ⟨r, x, y, kk⟩ W listed a w := by
        rcases hI with ⟨_, hb, hG⟩ | ⟨h, _⟩
        · exact ⟨hb, hG⟩
        · rw [h19] at h; cases h
      have q1 : a.tmps[1]? = some (.pointer (some ⟨b1, 0, none⟩)) := (hS.keep 1 (of_decide_eq_true (by kernel_rfl))).trans rfl
      go_simp
      exact hK _ _ ⟨(hS.put hn 6 55 _ rfl (by show 55 < 136; omega) (fun u h => by injection h with h; injection h with h; exact h.symm)), .inl ⟨by rw [getD_set hls, if_neg (by omega)]; exact h19, hb, hG.same (by omega) hls (by simp) (by simp) (by simp) (by simp) (by simp)⟩⟩
    ·
      refine wpOp_step (o := { dst := some 56, op := Op.load 30 (Operand.tmp 55), type := 30, pos := "ref.go:225", after := #[{ on := 6, ground := Ground.data }], guard := none }) rfl ?_
      intro K hK
      have h19 : listed.getD 19 false = false := by
        cases h : listed.getD 19 false with
        | false => rfl
        | true => rw [hcl 19 7 h (of_decide_eq_true (by kernel_rfl))] at hl; cases hl
      obtain ⟨hb, hG⟩ : Below W.heap.size W w ∧ InsG [] 0 ⟨r, x, y, kk⟩ W listed a w := by
        rcases hI with ⟨_, hb, hG⟩ | ⟨h, _⟩
        · exact ⟨hb, hG⟩
        · rw [h19] at h; cases h
      have q55 : a.tmps[55]? = some (.pointer (some ⟨b1, 0, none⟩)) := hS.val 6 55 _ (hd 6 (of_decide_eq_true (by kernel_rfl))) rfl rfl
      have m0 := (hV.next hb).cell 0 _ rfl
      go_simp
      exact hK _ _ ⟨(hS.put hn 7 56 _ rfl (by show 56 < 136; omega) (fun u h => by injection h with h; injection h with h; exact h.symm)), .inl ⟨by rw [getD_set hls, if_neg (by omega)]; exact h19, hb, hG.same (by omega) hls (by simp) (by simp) (by simp) (by simp) (by simp)⟩⟩
    ·
      refine wpOp_step (o := { dst := some 57, op := Op.move (Operand.tmp 5), type := 3, pos := "ref.go:225", after := #[], guard := none }) rfl ?_
      intro K hK
      have h19 : listed.getD 19 false = false := by
        cases h : listed.getD 19 false with
        | false => rfl
        | true => rw [hcl 19 8 h (of_decide_eq_true (by kernel_rfl))] at hl; cases hl
      obtain ⟨hb, hG⟩ : Below W.heap.size W w ∧ InsG [] 0 ⟨r, x, y, kk⟩ W listed a w := by
        rcases hI with ⟨_, hb, hG⟩ | ⟨h, _⟩
        · exact ⟨hb, hG⟩
        · rw [h19] at h; cases h
      have q5 : a.tmps[5]? = some (.int .i64 (i : Int)) := (hS.keep 5 (of_decide_eq_true (by kernel_rfl))).trans rfl
      go_simp
      exact hK _ _ ⟨(hS.put hn 8 57 _ rfl (by show 57 < 136; omega) (fun u h => by injection h with h; injection h with h; exact h.symm)), .inl ⟨by rw [getD_set hls, if_neg (by omega)]; exact h19, hb, hG.same (by omega) hls (by simp) (by simp) (by simp) (by simp) (by simp)⟩⟩
    ·
      refine wpOp_step (o := { dst := some 58, op := Op.indexAddr 30 (Operand.tmp 56) (Operand.tmp 57), type := 0, pos := "ref.go:225", after := #[{ on := 7, ground := Ground.data }, { on := 8, ground := Ground.data }], guard := none }) rfl ?_
      intro K hK
      have h19 : listed.getD 19 false = false := by
        cases h : listed.getD 19 false with
        | false => rfl
        | true => rw [hcl 19 9 h (of_decide_eq_true (by kernel_rfl))] at hl; cases hl
      obtain ⟨hb, hG⟩ : Below W.heap.size W w ∧ InsG [] 0 ⟨r, x, y, kk⟩ W listed a w := by
        rcases hI with ⟨_, hb, hG⟩ | ⟨h, _⟩
        · exact ⟨hb, hG⟩
        · rw [h19] at h; cases h
      have q56 : a.tmps[56]? = some (.slice (some ⟨vb, vo, none⟩) n vc) := hS.val 7 56 _ (hd 7 (of_decide_eq_true (by kernel_rfl))) rfl rfl
      have q57 : a.tmps[57]? = some (.int .i64 (i : Int)) := hS.val 8 57 _ (hd 8 (of_decide_eq_true (by kernel_rfl))) rfl rfl
      go_simp
      exact hK _ _ ⟨(hS.put hn 9 58 _ rfl (by show 58 < 136; omega) (fun u h => by injection h with h; injection h with h; exact h.symm)), .inl ⟨by rw [getD_set hls, if_neg (by omega)]; exact h19, hb, hG.same (by omega) hls (by simp) (by simp) (by simp) (by simp) (by simp)⟩⟩
    ·
      refine wpOp_step (o := { dst := some 59, op := Op.load 45 (Operand.tmp 58), type := 45, pos := "ref.go:225", after := #[{ on := 9, ground := Ground.data }], guard := none }) rfl ?_
      intro K hK
      have h19 : listed.getD 19 false = false := by
        cases h : listed.getD 19 false with
        | false => rfl
        | true => rw [hcl 19 10 h (of_decide_eq_true (by kernel_rfl))] at hl; cases hl
      obtain ⟨hb, hG⟩ : Below W.heap.size W w ∧ InsG [] 0 ⟨r, x, y, kk⟩ W listed a w := by
        rcases hI with ⟨_, hb, hG⟩ | ⟨h, _⟩
        · exact ⟨hb, hG⟩
        · rw [h19] at h; cases h
      have q58 : a.tmps[58]? = some (.pointer (some ⟨vb, vo + i * 4, none⟩)) := hS.val 9 58 _ (hd 9 (of_decide_eq_true (by kernel_rfl))) rfl rfl
      obtain ⟨_, m0, m1, m2, m3⟩ := hT.next hb
      go_simp
      exact hK _ _ ⟨(hS.put hn 10 59 _ rfl (by show 59 < 136; omega) (fun u h => by injection h with h; injection h with h; exact h.symm)), .inl ⟨by rw [getD_set hls, if_neg (by omega)]; exact h19, hb, hG.same (by omega) hls (by simp) (by simp) (by simp) (by simp) (by simp)⟩⟩
    ·
      refine wpOp_step (o := { dst := some 60, op := Op.buildSlice 30 1 #[(0, Operand.tmp 59)], type := 30, pos := "ref.go:225", after := #[{ on := 10, ground := Ground.data }], guard := none }) rfl ?_
      intro K hK
      have h19 : listed.getD 19 false = false := by
        cases h : listed.getD 19 false with
        | false => rfl
        | true => rw [hcl 19 11 h (of_decide_eq_true (by kernel_rfl))] at hl; cases hl
      obtain ⟨hb, hG⟩ : Below W.heap.size W w ∧ InsG [] 0 ⟨r, x, y, kk⟩ W listed a w := by
        rcases hI with ⟨_, hb, hG⟩ | ⟨h, _⟩
        · exact ⟨hb, hG⟩
        · rw [h19] at h; cases h
      have n12 : listed.getD 12 false = false := by
        cases h : listed.getD 12 false with
        | false => rfl
        | true => rw [hcl 12 11 h (of_decide_eq_true (by kernel_rfl))] at hl; cases hl
      have n17 : listed.getD 17 false = false := by
        cases h : listed.getD 17 false with
        | false => rfl
        | true => rw [hcl 17 12 h (of_decide_eq_true (by kernel_rfl))] at n12; cases n12
      have q59 : a.tmps[59]? = some (seatV r x y kk) := hS.val 10 59 _ (hd 10 (of_decide_eq_true (by kernel_rfl))) rfl rfl
      go_simp
      refine hK _ _ ⟨(hS.put hn 11 60 _ rfl (by show 60 < 136; omega) (fun u h => by injection h with h; cases h)), .inl ⟨by rw [getD_set hls, if_neg (by omega)]; exact h19, hb.alloc hb.size _, ?_⟩⟩
      exact hG.one hls hsz.out n12 n17
    ·
      refine wpOp_step (o := { dst := some 61, op := Op.call { callee := Callee.builtin Builtin.append, args := #[Operand.tmp 54, Operand.tmp 60], argTypes := #[30, 30] }, type := 30, pos := "ref.go:225", after := #[{ on := 5, ground := Ground.data }, { on := 11, ground := Ground.data }, { on := 5, ground := Ground.chain }], guard := none }) rfl ?_
      intro K hK
      have h19 : listed.getD 19 false = false := by
        cases h : listed.getD 19 false with
        | false => rfl
        | true => rw [hcl 19 12 h (of_decide_eq_true (by kernel_rfl))] at hl; cases hl
      obtain ⟨hb, hG⟩ : Below W.heap.size W w ∧ InsG [] 0 ⟨r, x, y, kk⟩ W listed a w := by
        rcases hI with ⟨_, hb, hG⟩ | ⟨h, _⟩
        · exact ⟨hb, hG⟩
        · rw [h19] at h; cases h
      have n17 : listed.getD 17 false = false := by
        cases h : listed.getD 17 false with
        | false => rfl
        | true => rw [hcl 17 12 h (of_decide_eq_true (by kernel_rfl))] at hl; cases hl
      obtain ⟨rv, g7, _, _, h5, _, h11⟩ := hG
      obtain ⟨e5, hown⟩ := h5 hl (hd 5 (of_decide_eq_true (by kernel_rfl)))
      obtain ⟨e11, hS7, _⟩ := h11 (hd 11 (of_decide_eq_true (by kernel_rfl))) hl
      refine step_append_own_at rfl _ _ 30 rfl W.heap.size 45 i0 (seatV 0 0 0 0) 4 32 Tryz.underlying30 hi hz0 hz1 hz2 rfl (by omega) _ _ _ (eval_of e5) hown ⟨g7, 0, none⟩ 1 1 (seatC ⟨r, x, y, kk⟩) (eval_of e11) rfl (fun q u hq => by rw [Addr.add_lit, Nat.zero_add]; exact hS7.cell q u (by show (seatC ⟨r, x, y, kk⟩).toArray[q]? = some u; rw [List.getElem?_toArray]; exact hq)) (fun u hu => seat_one [⟨r, x, y, kk⟩] u (by simpa using hu)) (by unfold maxLen; omega) (by omega) hb.size ?_
      intro v2 w2 hown2 hgr hloc
      refine hK _ _ ⟨(hS.put hn 12 61 _ rfl (by show 61 < 136; omega) (fun u h => by injection h with h; cases h)), .inl ⟨by rw [getD_set hls, if_neg (by omega)]; exact h19, hb.grown hgr hb.size (row_high hown), ?_⟩⟩
      exact InsG.put hls hsz.out n17 (hd 5 (of_decide_eq_true (by kernel_rfl))) hown2
    ·
      refine wpOp_step (o := { dst := some 62, op := Op.fieldAddr 33 (Operand.tmp 4) 0, type := 0, pos := "ref.go:225", after := #[], guard := none }) rfl ?_
      intro K hK
      have h19 : listed.getD 19 false = false := by
        cases h : listed.getD 19 false with
        | false => rfl
        | true => rw [hcl 19 13 h (of_decide_eq_true (by kernel_rfl))] at hl; cases hl
      obtain ⟨hb, hG⟩ : Below W.heap.size W w ∧ InsG [] 0 ⟨r, x, y, kk⟩ W listed a w := by
        rcases hI with ⟨_, hb, hG⟩ | ⟨h, _⟩
        · exact ⟨hb, hG⟩
        · rw [h19] at h; cases h
      have q4 : a.tmps[4]? = some (.pointer (some ⟨b4, 0, none⟩)) := (hS.keep 4 (of_decide_eq_true (by kernel_rfl))).trans rfl
      go_simp
      exact hK _ _ ⟨(hS.put hn 13 62 _ rfl (by show 62 < 136; omega) (fun u h => by injection h with h; injection h with h; exact h.symm)), .inl ⟨by rw [getD_set hls, if_neg (by omega)]; exact h19, hb, hG.same (by omega) hls (by simp) (by simp) (by simp) (by simp) (by simp)⟩⟩
    ·
      refine wpOp_step (o := { dst := some 63, op := Op.load 30 (Operand.tmp 62), type := 30, pos := "ref.go:225", after := #[{ on := 13, ground := Ground.data }], guard := none }) rfl ?_
      intro K hK
      have h19 : listed.getD 19 false = false := by
        cases h : listed.getD 19 false with
        | false => rfl
        | true => rw [hcl 19 14 h (of_decide_eq_true (by kernel_rfl))] at hl; cases hl
      obtain ⟨hb, hG⟩ : Below W.heap.size W w ∧ InsG [] 0 ⟨r, x, y, kk⟩ W listed a w := by
        rcases hI with ⟨_, hb, hG⟩ | ⟨h, _⟩
        · exact ⟨hb, hG⟩
        · rw [h19] at h; cases h
      have q62 : a.tmps[62]? = some (.pointer (some ⟨b4, 0, none⟩)) := hS.val 13 62 _ (hd 13 (of_decide_eq_true (by kernel_rfl))) rfl rfl
      have m0 := (hU.next hb).cell 0 _ rfl
      go_simp
      exact hK _ _ ⟨(hS.put hn 14 63 _ rfl (by show 63 < 136; omega) (fun u h => by injection h with h; injection h with h; exact h.symm)), .inl ⟨by rw [getD_set hls, if_neg (by omega)]; exact h19, hb, hG.same (by omega) hls (by simp) (by simp) (by simp) (by simp) (by simp)⟩⟩
    ·
      refine wpOp_step (o := { dst := some 64, op := Op.move (Operand.tmp 6), type := 3, pos := "ref.go:225", after := #[], guard := none }) rfl ?_
      intro K hK
      have h19 : listed.getD 19 false = false := by
        cases h : listed.getD 19 false with
        | false => rfl
        | true => rw [hcl 19 15 h (of_decide_eq_true (by kernel_rfl))] at hl; cases hl
      obtain ⟨hb, hG⟩ : Below W.heap.size W w ∧ InsG [] 0 ⟨r, x, y, kk⟩ W listed a w := by
        rcases hI with ⟨_, hb, hG⟩ | ⟨h, _⟩
        · exact ⟨hb, hG⟩
        · rw [h19] at h; cases h
      have q6 : a.tmps[6]? = some (.int .i64 0) := (hS.keep 6 (of_decide_eq_true (by kernel_rfl))).trans rfl
      go_simp
      exact hK _ _ ⟨(hS.put hn 15 64 _ rfl (by show 64 < 136; omega) (fun u h => by injection h with h; injection h with h; exact h.symm)), .inl ⟨by rw [getD_set hls, if_neg (by omega)]; exact h19, hb, hG.same (by omega) hls (by simp) (by simp) (by simp) (by simp) (by simp)⟩⟩
    ·
      refine wpOp_step (o := { dst := some 65, op := Op.slice 30 (Operand.tmp 63) (some (Operand.tmp 64)) none none, type := 30, pos := "ref.go:225", after := #[{ on := 14, ground := Ground.data }, { on := 15, ground := Ground.data }], guard := none }) rfl ?_
      intro K hK
      have h19 : listed.getD 19 false = false := by
        cases h : listed.getD 19 false with
        | false => rfl
        | true => rw [hcl 19 16 h (of_decide_eq_true (by kernel_rfl))] at hl; cases hl
      obtain ⟨hb, hG⟩ : Below W.heap.size W w ∧ InsG [] 0 ⟨r, x, y, kk⟩ W listed a w := by
        rcases hI with ⟨_, hb, hG⟩ | ⟨h, _⟩
        · exact ⟨hb, hG⟩
        · rw [h19] at h; cases h
      have q63 : a.tmps[63]? = some (.slice none 0 0) := hS.val 14 63 _ (hd 14 (of_decide_eq_true (by kernel_rfl))) rfl rfl
      have q64 : a.tmps[64]? = some (.int .i64 0) := hS.val 15 64 _ (hd 15 (of_decide_eq_true (by kernel_rfl))) rfl rfl
      go_simp
      exact hK _ _ ⟨(hS.put hn 16 65 _ rfl (by show 65 < 136; omega) (fun u h => by injection h with h; injection h with h; exact h.symm)), .inl ⟨by rw [getD_set hls, if_neg (by omega)]; exact h19, hb, hG.same (by omega) hls (by simp) (by simp) (by simp) (by simp) (by simp)⟩⟩
    ·
      refine wpOp_step (o := { dst := some 66, op := Op.call { callee := Callee.builtin Builtin.append, args := #[Operand.tmp 61, Operand.tmp 65], argTypes := #[30, 30] }, type := 30, pos := "ref.go:225", after := #[{ on := 12, ground := Ground.data }, { on := 16, ground := Ground.data }, { on := 12, ground := Ground.chain }], guard := none }) rfl ?_
      intro K hK
      have h19 : listed.getD 19 false = false := by
        cases h : listed.getD 19 false with
        | false => rfl
        | true => rw [hcl 19 17 h (of_decide_eq_true (by kernel_rfl))] at hl; cases hl
      obtain ⟨hb, hG⟩ : Below W.heap.size W w ∧ InsG [] 0 ⟨r, x, y, kk⟩ W listed a w := by
        rcases hI with ⟨_, hb, hG⟩ | ⟨h, _⟩
        · exact ⟨hb, hG⟩
        · rw [h19] at h; cases h
      obtain ⟨rv, g7, _, h12, _, _, _⟩ := hG
      obtain ⟨e12, hown⟩ := h12 hl (hd 12 (of_decide_eq_true (by kernel_rfl)))
      obtain ⟨ra, rc, rfl⟩ := row_slice hown
      have q65 : a.tmps[65]? = some (.slice none 0 0) := hS.val 16 65 _ (hd 16 (of_decide_eq_true (by kernel_rfl))) rfl rfl
      refine step_append_no rfl 30 (by decide) rfl _ _ rfl _ _ _ (eval_of e12) (row_cap hown) (eval_of q65) ?_
      refine hK _ _ ⟨(hS.put hn 17 66 _ rfl (by show 66 < 136; omega) (fun u h => by injection h with h; cases h)), .inl ⟨by rw [getD_set hls, if_neg (by omega)]; exact h19, hb, ?_⟩⟩
      exact InsG.all hls hsz.out (hd 12 (of_decide_eq_true (by kernel_rfl))) (hcl 12 5 (hd 12 (of_decide_eq_true (by kernel_rfl))) (of_decide_eq_true (by kernel_rfl))) (by simpa using hown)
    ·
      refine wpOp_step (o := { dst := some 67, op := Op.fieldAddr 33 (Operand.tmp 4) 0, type := 0, pos := "ref.go:225", after := #[{ on := 0, ground := Ground.phase }, { on := 1, ground := Ground.phase }, { on := 2, ground := Ground.phase }, { on := 3, ground := Ground.phase }, { on := 4, ground := Ground.phase }, { on := 5, ground := Ground.phase }, { on := 6, ground := Ground.phase }, { on := 7, ground := Ground.phase }, { on := 8, ground := Ground.phase }, { on := 9, ground := Ground.phase }, { on := 10, ground := Ground.phase }, { on := 11, ground := Ground.phase }, { on := 12, ground := Ground.phase }, { on := 13, ground := Ground.phase }, { on := 14, ground := Ground.phase }, { on := 15, ground := Ground.phase }, { on := 16, ground := Ground.phase }, { on := 17, ground := Ground.phase }], guard := none }) rfl ?_
      intro K hK
      have h19 : listed.getD 19 false = false := by
        cases h : listed.getD 19 false with
        | false => rfl
        | true => rw [hcl 19 18 h (of_decide_eq_true (by kernel_rfl))] at hl; cases hl
      obtain ⟨hb, hG⟩ : Below W.heap.size W w ∧ InsG [] 0 ⟨r, x, y, kk⟩ W listed a w := by
        rcases hI with ⟨_, hb, hG⟩ | ⟨h, _⟩
        · exact ⟨hb, hG⟩
        · rw [h19] at h; cases h
      have q4 : a.tmps[4]? = some (.pointer (some ⟨b4, 0, none⟩)) := (hS.keep 4 (of_decide_eq_true (by kernel_rfl))).trans rfl
      go_simp
      exact hK _ _ ⟨(hS.put hn 18 67 _ rfl (by show 67 < 136; omega) (fun u h => by injection h with h; injection h with h; exact h.symm)), .inl ⟨by rw [getD_set hls, if_neg (by omega)]; exact h19, hb, hG.same (by omega) hls (by simp) (by simp) (by simp) (by simp) (by simp)⟩⟩
    ·
      refine wpOp_step (o := { dst := none, op := Op.store 30 (Operand.tmp 67) (Operand.tmp 66), type := 0, pos := "ref.go:225", after := #[{ on := 18, ground := Ground.data }, { on := 17, ground := Ground.data }, { on := 17, ground := Ground.chain }, { on := 0, ground := Ground.phase }, { on := 1, ground := Ground.phase }, { on := 2, ground := Ground.phase }, { on := 3, ground := Ground.phase }, { on := 4, ground := Ground.phase }, { on := 5, ground := Ground.phase }, { on := 6, ground := Ground.phase }, { on := 7, ground := Ground.phase }, { on := 8, ground := Ground.phase }, { on := 9, ground := Ground.phase }, { on := 10, ground := Ground.phase }, { on := 11, ground := Ground.phase }, { on := 12, ground := Ground.phase }, { on := 13, ground := Ground.phase }, { on := 14, ground := Ground.phase }, { on := 15, ground := Ground.phase }, { on := 16, ground := Ground.phase }, { on := 17, ground := Ground.phase }], guard := none }) rfl ?_
      intro K hK
      obtain ⟨hb, hG⟩ : Below W.heap.size W w ∧ InsG [] 0 ⟨r, x, y, kk⟩ W listed a w := by
        rcases hI with ⟨_, hb, hG⟩ | ⟨h, _⟩
        · exact ⟨hb, hG⟩
        · rw [hl] at h; cases h
      obtain ⟨rv, g7, h17, _, _, _, _⟩ := hG
      obtain ⟨e17, hown⟩ := h17 (hd 17 (of_decide_eq_true (by kernel_rfl)))
      obtain ⟨a13, c13, rfl⟩ := row_slice hown
      have q67 : a.tmps[67]? = some (.pointer (some ⟨b4, 0, none⟩)) := hS.val 18 67 _ (hd 18 (of_decide_eq_true (by kernel_rfl))) rfl rfl
      have hx := hU.next hb
      have m0 := hx.cell 0 _ rfl
      have mf := hx.frozen 0
      have ml := hx.lt
      go_simp
      exact hK _ _ ⟨hS.skip 19 rfl, .inr ⟨by rw [getD_set hls, if_pos rfl], w, a13, c13, rfl, hb, e17, hown⟩⟩
  · intro listed a w hall ⟨hS, hI⟩
    rcases hI with ⟨h, _⟩ | ⟨_, w1, a13, c13, rfl, hb, e17, hown⟩
    · rw [hall 19 (by show 19 < 20; omega)] at h; cases h
    · have hsz : a.tmps.size = 136 := hS.size
      obtain ⟨x0, hx0⟩ := slot_of (a := a) (k := 49) (by rw [hsz]; omega)
      obtain ⟨x5, hx5⟩ := slot_of (a := a) (k := 54) (by rw [hsz]; omega)
      obtain ⟨x11, hx11⟩ := slot_of (a := a) (k := 60) (by rw [hsz]; omega)
      obtain ⟨x12, hx12⟩ := slot_of (a := a) (k := 61) (by rw [hsz]; omega)
      have he := hS.frame [(49, x0), (50, .pointer (some ⟨b4, 0, none⟩)), (51, .slice none 0 0), (52, .int .i64 0), (53, .slice none 0 0), (54, x5), (55, .pointer (some ⟨b1, 0, none⟩)), (56, .slice (some ⟨vb, vo, none⟩) n vc), (57, .int .i64 (i : Int)), (58, .pointer (some ⟨vb, vo + i * 4, none⟩)), (59, seatV r x y kk), (60, x11), (61, x12), (62, .pointer (some ⟨b4, 0, none⟩)), (63, .slice none 0 0), (64, .int .i64 0), (65, .slice none 0 0), (66, .slice a13 1 c13), (67, .pointer (some ⟨b4, 0, none⟩))] rfl (by show List.Pairwise _ [49, 50, 51, 52, 53, 54, 55, 56, 57, 58, 59, 60, 61, 62, 63, 64, 65, 66, 67]; decide) (by kernel_rfl) (List.forall_mem_cons.2 ⟨hx0, List.forall_mem_cons.2 ⟨hS.val 1 50 _ (hall 1 (by show 1 < 20; omega)) rfl rfl, List.forall_mem_cons.2 ⟨hS.val 2 51 _ (hall 2 (by show 2 < 20; omega)) rfl rfl, List.forall_mem_cons.2 ⟨hS.val 3 52 _ (hall 3 (by show 3 < 20; omega)) rfl rfl, List.forall_mem_cons.2 ⟨hS.val 4 53 _ (hall 4 (by show 4 < 20; omega)) rfl rfl, List.forall_mem_cons.2 ⟨hx5, List.forall_mem_cons.2 ⟨hS.val 6 55 _ (hall 6 (by show 6 < 20; omega)) rfl rfl, List.forall_mem_cons.2 ⟨hS.val 7 56 _ (hall 7 (by show 7 < 20; omega)) rfl rfl, List.forall_mem_cons.2 ⟨hS.val 8 57 _ (hall 8 (by show 8 < 20; omega)) rfl rfl, List.forall_mem_cons.2 ⟨hS.val 9 58 _ (hall 9 (by show 9 < 20; omega)) rfl rfl, List.forall_mem_cons.2 ⟨hS.val 10 59 _ (hall 10 (by show 10 < 20; omega)) rfl rfl, List.forall_mem_cons.2 ⟨hx11, List.forall_mem_cons.2 ⟨hx12, List.forall_mem_cons.2 ⟨hS.val 13 62 _ (hall 13 (by show 13 < 20; omega)) rfl rfl, List.forall_mem_cons.2 ⟨hS.val 14 63 _ (hall 14 (by show 14 < 20; omega)) rfl rfl, List.forall_mem_cons.2 ⟨hS.val 15 64 _ (hall 15 (by show 15 < 20; omega)) rfl rfl, List.forall_mem_cons.2 ⟨hS.val 16 65 _ (hall 16 (by show 16 < 20; omega)) rfl rfl, List.forall_mem_cons.2 ⟨e17, List.forall_mem_cons.2 ⟨hS.val 18 67 _ (hall 18 (by show 18 < 20; omega)) rfl rfl, fun p hp => by cases hp⟩⟩⟩⟩⟩⟩⟩⟩⟩⟩⟩⟩⟩⟩⟩⟩⟩⟩⟩)
      have e2 : ({ tmps := putAll (A0::.pointer (some ⟨b1, 0, none⟩)::A2::A3::.pointer (some ⟨b4, 0, none⟩)::.int .i64 (i : Int)::.int .i64 0::A7::A8::A9::B0::B1::B2::B3::B4::B5::B6::B7::B8::B9::C0::C1::C2::C3::C4::C5::C6::C7::C8::C9::D0::D1::D2::D3::D4::D5::D6::D7::D8::D9::E0::E1::E2::E3::E4::E5::E6::E7::E8::E9::F0::F1::F2::F3::F4::F5::F6::F7::F8::F9::G0::G1::G2::G3::G4::G5::G6::G7::G8::G9::H0::H1::H2::H3::H4::H5::H6::H7::H8::H9::I0::I1::I2::I3::I4::I5::I6::I7::I8::I9::J0::J1::J2::J3::J4::J5::J6::J7::J8::J9::K0::K1::K2::K3::K4::K5::K6::K7::K8::K9::L0::L1::L2::L3::L4::L5::L6::L7::L8::L9::M0::M1::M2::M3::M4::M5::M6::M7::M8::M9::N0::N1::N2::N3::N4::N5::[]).toArray [(49, x0), (50, .pointer (some ⟨b4, 0, none⟩)), (51, .slice none 0 0), (52, .int .i64 0), (53, .slice none 0 0), (54, x5), (55, .pointer (some ⟨b1, 0, none⟩)), (56, .slice (some ⟨vb, vo, none⟩) n vc), (57, .int .i64 (i : Int)), (58, .pointer (some ⟨vb, vo + i * 4, none⟩)), (59, seatV r x y kk), (60, x11), (61, x12), (62, .pointer (some ⟨b4, 0, none⟩)), (63, .slice none 0 0), (64, .int .i64 0), (65, .slice none 0 0), (66, .slice a13 1 c13), (67, .pointer (some ⟨b4, 0, none⟩))], defers := [] } : Act) = { tmps := (A0::.pointer (some ⟨b1, 0, none⟩)::A2::A3::.pointer (some ⟨b4, 0, none⟩)::.int .i64 (i : Int)::.int .i64 0::A7::A8::A9::B0::B1::B2::B3::B4::B5::B6::B7::B8::B9::C0::C1::C2::C3::C4::C5::C6::C7::C8::C9::D0::D1::D2::D3::D4::D5::D6::D7::D8::D9::E0::E1::E2::E3::E4::E5::E6::E7::E8::x0::.pointer (some ⟨b4, 0, none⟩)::.slice none 0 0::.int .i64 0::.slice none 0 0::x5::.pointer (some ⟨b1, 0, none⟩)::.slice (some ⟨vb, vo, none⟩) n vc::.int .i64 (i : Int)::.pointer (some ⟨vb, vo + i * 4, none⟩)::seatV r x y kk::x11::x12::.pointer (some ⟨b4, 0, none⟩)::.slice none 0 0::.int .i64 0::.slice none 0 0::.slice a13 1 c13::.pointer (some ⟨b4, 0, none⟩)::G8::G9::H0::H1::H2::H3::H4::H5::H6::H7::H8::H9::I0::I1::I2::I3::I4::I5::I6::I7::I8::I9::J0::J1::J2::J3::J4::J5::J6::J7::J8::J9::K0::K1::K2::K3::K4::K5::K6::K7::K8::K9::L0::L1::L2::L3::L4::L5::L6::L7::L8::L9::M0::M1::M2::M3::M4::M5::M6::M7::M8::M9::N0::N1::N2::N3::N4::N5::[]).toArray, defers := [] } := by kernel_rfl
      rw [hszd] at hown
      rw [he]
      show Q .normal { tmps := putAll (A0::.pointer (some ⟨b1, 0, none⟩)::A2::A3::.pointer (some ⟨b4, 0, none⟩)::.int .i64 (i : Int)::.int .i64 0::A7::A8::A9::B0::B1::B2::B3::B4::B5::B6::B7::B8::B9::C0::C1::C2::C3::C4::C5::C6::C7::C8::C9::D0::D1::D2::D3::D4::D5::D6::D7::D8::D9::E0::E1::E2::E3::E4::E5::E6::E7::E8::E9::F0::F1::F2::F3::F4::F5::F6::F7::F8::F9::G0::G1::G2::G3::G4::G5::G6::G7::G8::G9::H0::H1::H2::H3::H4::H5::H6::H7::H8::H9::I0::I1::I2::I3::I4::I5::I6::I7::I8::I9::J0::J1::J2::J3::J4::J5::J6::J7::J8::J9::K0::K1::K2::K3::K4::K5::K6::K7::K8::K9::L0::L1::L2::L3::L4::L5::L6::L7::L8::L9::M0::M1::M2::M3::M4::M5::M6::M7::M8::M9::N0::N1::N2::N3::N4::N5::[]).toArray [(49, x0), (50, .pointer (some ⟨b4, 0, none⟩)), (51, .slice none 0 0), (52, .int .i64 0), (53, .slice none 0 0), (54, x5), (55, .pointer (some ⟨b1, 0, none⟩)), (56, .slice (some ⟨vb, vo, none⟩) n vc), (57, .int .i64 (i : Int)), (58, .pointer (some ⟨vb, vo + i * 4, none⟩)), (59, seatV r x y kk), (60, x11), (61, x12), (62, .pointer (some ⟨b4, 0, none⟩)), (63, .slice none 0 0), (64, .int .i64 0), (65, .slice none 0 0), (66, .slice a13 1 c13), (67, .pointer (some ⟨b4, 0, none⟩))], defers := [] } _
      rw [e2]
      exact hQ w1 x0 x5 x11 x12 a13 c13 (hbd.trans (hszd ▸ hb)) hown
def opsInss : Array Oper := #[{ dst := some 49, op := Op.buildSlice 30 0 #[], type := 30, pos := "ref.go:225", after := #[], guard := none }, { dst := some 50, op := Op.fieldAddr 33 (Operand.tmp 4) 0, type := 0, pos := "ref.go:225", after := #[], guard := none }, { dst := some 51, op := Op.load 30 (Operand.tmp 50), type := 30, pos := "ref.go:225", after := #[{ on := 1, ground := Ground.data }], guard := none }, { dst := some 52, op := Op.move (Operand.tmp 6), type := 3, pos := "ref.go:225", after := #[], guard := none }, { dst := some 53, op := Op.slice 30 (Operand.tmp 51) none (some (Operand.tmp 52)) none, type := 30, pos := "ref.go:225", after := #[{ on := 2, ground := Ground.data }, { on := 3, ground := Ground.data }], guard := none }, { dst := some 54, op := Op.call { callee := Callee.builtin Builtin.append, args := #[Operand.tmp 49, Operand.tmp 53], argTypes := #[30, 30] }, type := 30, pos := "ref.go:225", after := #[{ on := 0, ground := Ground.data }, { on := 4, ground := Ground.data }], guard := none }, { dst := some 55, op := Op.fieldAddr 33 (Operand.tmp 1) 0, type := 0, pos := "ref.go:225", after := #[], guard := none }, { dst := some 56, op := Op.load 30 (Operand.tmp 55), type := 30, pos := "ref.go:225", after := #[{ on := 6, ground := Ground.data }], guard := none }, { dst := some 57, op := Op.move (Operand.tmp 5), type := 3, pos := "ref.go:225", after := #[], guard := none }, { dst := some 58, op := Op.indexAddr 30 (Operand.tmp 56) (Operand.tmp 57), type := 0, pos := "ref.go:225", after := #[{ on := 7, ground := Ground.data }, { on := 8, ground := Ground.data }], guard := none }, { dst := some 59, op := Op.load 45 (Operand.tmp 58), type := 45, pos := "ref.go:225", after := #[{ on := 9, ground := Ground.data }], guard := none }, { dst := some 60, op := Op.buildSlice 30 1 #[(0, Operand.tmp 59)], type := 30, pos := "ref.go:225", after := #[{ on := 10, ground := Ground.data }], guard := none }, { dst := some 61, op := Op.call { callee := Callee.builtin Builtin.append, args := #[Operand.tmp 54, Operand.tmp 60], argTypes := #[30, 30] }, type := 30, pos := "ref.go:225", after := #[{ on := 5, ground := Ground.data }, { on := 11, ground := Ground.data }, { on := 5, ground := Ground.chain }], guard := none }, { dst := some 62, op := Op.fieldAddr 33 (Operand.tmp 4) 0, type := 0, pos := "ref.go:225", after := #[], guard := none }, { dst := some 63, op := Op.load 30 (Operand.tmp 62), type := 30, pos := "ref.go:225", after := #[{ on := 13, ground := Ground.data }], guard := none }, { dst := some 64, op := Op.move (Operand.tmp 6), type := 3, pos := "ref.go:225", after := #[], guard := none }, { dst := some 65, op := Op.slice 30 (Operand.tmp 63) (some (Operand.tmp 64)) none none, type := 30, pos := "ref.go:225", after := #[{ on := 14, ground := Ground.data }, { on := 15, ground := Ground.data }], guard := none }, { dst := some 66, op := Op.call { callee := Callee.builtin Builtin.append, args := #[Operand.tmp 61, Operand.tmp 65], argTypes := #[30, 30] }, type := 30, pos := "ref.go:225", after := #[{ on := 12, ground := Ground.data }, { on := 16, ground := Ground.data }, { on := 12, ground := Ground.chain }], guard := none }, { dst := some 67, op := Op.fieldAddr 33 (Operand.tmp 4) 0, type := 0, pos := "ref.go:225", after := #[{ on := 0, ground := Ground.phase }, { on := 1, ground := Ground.phase }, { on := 2, ground := Ground.phase }, { on := 3, ground := Ground.phase }, { on := 4, ground := Ground.phase }, { on := 5, ground := Ground.phase }, { on := 6, ground := Ground.phase }, { on := 7, ground := Ground.phase }, { on := 8, ground := Ground.phase }, { on := 9, ground := Ground.phase }, { on := 10, ground := Ground.phase }, { on := 11, ground := Ground.phase }, { on := 12, ground := Ground.phase }, { on := 13, ground := Ground.phase }, { on := 14, ground := Ground.phase }, { on := 15, ground := Ground.phase }, { on := 16, ground := Ground.phase }, { on := 17, ground := Ground.phase }], guard := none }, { dst := none, op := Op.store 30 (Operand.tmp 67) (Operand.tmp 66), type := 0, pos := "ref.go:225", after := #[{ on := 18, ground := Ground.data }, { on := 17, ground := Ground.data }, { on := 17, ground := Ground.chain }, { on := 0, ground := Ground.phase }, { on := 1, ground := Ground.phase }, { on := 2, ground := Ground.phase }, { on := 3, ground := Ground.phase }, { on := 4, ground := Ground.phase }, { on := 5, ground := Ground.phase }, { on := 6, ground := Ground.phase }, { on := 7, ground := Ground.phase }, { on := 8, ground := Ground.phase }, { on := 9, ground := Ground.phase }, { on := 10, ground := Ground.phase }, { on := 11, ground := Ground.phase }, { on := 12, ground := Ground.phase }, { on := 13, ground := Ground.phase }, { on := 14, ground := Ground.phase }, { on := 15, ground := Ground.phase }, { on := 16, ground := Ground.phase }, { on := 17, ground := Ground.phase }], guard := none }]
def dstInss : List (Option Nat) := [some 49, some 50, some 51, some 52, some 53, some 54, some 55, some 56, some 57, some 58, some 59, some 60, some 61, some 62, some 63, some 64, some 65, some 66, some 67, none]
theorem dstInss_apart : dstInss.Pairwise (fun x y => x = none ∨ x ≠ y) := by decide
set_option maxHeartbeats 16000000 in
theorem region12_8s (Q : Exit → Act → World → Prop) (l : List Seat) (b off c j : Nat) (hj : j ≤ l.length) (hlc : l.length ≤ c) (hl30 : l.length ≤ 5000) (hcm : c ≤ 9223372036854775807) (A : Addr) (hA : (if c = j then some (⟨b, off, none⟩ : Addr) else some ⟨b, off + j * 4, none⟩) = some A) (i n vb vo vc : Nat) (hin : i < n) (r x y kk : Int) (v1 v2 v3 v4 w1 w2' w3 w4 : Value) (b1 b4 : Nat) (W0 : World)
    (hV0 : Box W0 b1 33 #[.slice (some ⟨vb, vo, none⟩) n vc, v1, v2, v3, v4]) (hT0 : SeatAt W0 vb (vo + i * 4) r x y kk) (hU0 : Box W0 b4 33 #[.slice (some ⟨b, off, none⟩) l.length c, w1, w2', w3, w4]) (hC0 : Cells 4 seatC W0 b off l)
    (A0 A2 A3 A7 A8 A9 B0 B1 B2 B3 B4 B5 B6 B7 B8 B9 C0 C1 C2 C3 C4 C5 C6 C7 C8 C9 D0 D1 D2 D3 D4 D5 D6 D7 D8 D9 E0 E1 E2 E3 E4 E5 E6 E7 E8 E9 F0 F1 F2 F3 F4 F5 F6 F7 F8 F9 G0 G1 G2 G3 G4 G5 G6 G7 G8 G9 H0 H1 H2 H3 H4 H5 H6 H7 H8 H9 I0 I1 I2 I3 I4 I5 I6 I7 I8 I9 J0 J1 J2 J3 J4 J5 J6 J7 J8 J9 K0 K1 K2 K3 K4 K5 K6 K7 K8 K9 L0 L1 L2 L3 L4 L5 L6 L7 L8 L9 M0 M1 M2 M3 M4 M5 M6 M7 M8 M9 N0 N1 N2 N3 N4 N5 : Value)
    (hQ : ∀ W' x0 x5 x11 x12 a13 c13, Below W0.heap.size W0 W' → W'.ownsRow W0.heap.size 45 4 (.slice a13 (l.length + 1) c13) (l.length + 1) ((l.take j).flatMap seatC ++ seatC ⟨r, x, y, kk⟩ ++ (l.drop j).flatMap seatC) → Q .normal { tmps := (A0::.pointer (some ⟨b1, 0, none⟩)::A2::A3::.pointer (some ⟨b4, 0, none⟩)::.int .i64 (i : Int)::.int .i64 (j : Int)::A7::A8::A9::B0::B1::B2::B3::B4::B5::B6::B7::B8::B9::C0::C1::C2::C3::C4::C5::C6::C7::C8::C9::D0::D1::D2::D3::D4::D5::D6::D7::D8::D9::E0::E1::E2::E3::E4::E5::E6::E7::E8::x0::.pointer (some ⟨b4, 0, none⟩)::.slice (some ⟨b, off, none⟩) l.length c::.int .i64 (j : Int)::.slice (some ⟨b, off, none⟩) j c::x5::.pointer (some ⟨b1, 0, none⟩)::.slice (some ⟨vb, vo, none⟩) n vc::.int .i64 (i : Int)::.pointer (some ⟨vb, vo + i * 4, none⟩)::seatV r x y kk::x11::x12::.pointer (some ⟨b4, 0, none⟩)::.slice (some ⟨b, off, none⟩) l.length c::.int .i64 (j : Int)::.slice (some A) (l.length - j) (c - j)::.slice a13 (l.length + 1) c13::.pointer (some ⟨b4, 0, none⟩)::G8::G9::H0::H1::H2::H3::H4::H5::H6::H7::H8::H9::I0::I1::I2::I3::I4::I5::I6::I7::I8::I9::J0::J1::J2::J3::J4::J5::J6::J7::J8::J9::K0::K1::K2::K3::K4::K5::K6::K7::K8::K9::L0::L1::L2::L3::L4::L5::L6::L7::L8::L9::M0::M1::M2::M3::M4::M5::M6::M7::M8::M9::N0::N1::N2::N3::N4::N5::[]).toArray, defers := [] } (W'.setCell ⟨b4, 0, none⟩ (.slice a13 (l.length + 1) c13))) :
    (Code.region 8 #[{ dst := some 49, op := Op.buildSlice 30 0 #[], type := 30, pos := "ref.go:225", after := #[], guard := none }, { dst := some 50, op := Op.fieldAddr 33 (Operand.tmp 4) 0, type := 0, pos := "ref.go:225", after := #[], guard := none }, { dst := some 51, op := Op.load 30 (Operand.tmp 50), type := 30, pos := "ref.go:225", after := #[{ on := 1, ground := Ground.data }], guard := none }, { dst := some 52, op := Op.move (Operand.tmp 6), type := 3, pos := "ref.go:225", after := #[], guard := none }, { dst := some 53, op := Op.slice 30 (Operand.tmp 51) none (some (Operand.tmp 52)) none, type := 30, pos := "ref.go:225", after := #[{ on := 2, ground := Ground.data }, { on := 3, ground := Ground.data }], guard := none }, { dst := some 54, op := Op.call { callee := Callee.builtin Builtin.append, args := #[Operand.tmp 49, Operand.tmp 53], argTypes := #[30, 30] }, type := 30, pos := "ref.go:225", after := #[{ on := 0, ground := Ground.data }, { on := 4, ground := Ground.data }], guard := none }, { dst := some 55, op := Op.fieldAddr 33 (Operand.tmp 1) 0, type := 0, pos := "ref.go:225", after := #[], guard := none }, { dst := some 56, op := Op.load 30 (Operand.tmp 55), type := 30, pos := "ref.go:225", after := #[{ on := 6, ground := Ground.data }], guard := none }, { dst := some 57, op := Op.move (Operand.tmp 5), type := 3, pos := "ref.go:225", after := #[], guard := none }, { dst := some 58, op := Op.indexAddr 30 (Operand.tmp 56) (Operand.tmp 57), type := 0, pos := "ref.go:225", after := #[{ on := 7, ground := Ground.data }, { on := 8, ground := Ground.data }], guard := none }, { dst := some 59, op := Op.load 45 (Operand.tmp 58), type := 45, pos := "ref.go:225", after := #[{ on := 9, ground := Ground.data }], guard := none }, { dst := some 60, op := Op.buildSlice 30 1 #[(0, Operand.tmp 59)], type := 30, pos := "ref.go:225", after := #[{ on := 10, ground := Ground.data }], guard := none }, { dst := some 61, op := Op.call { callee := Callee.builtin Builtin.append, args := #[Operand.tmp 54, Operand.tmp 60], argTypes := #[30, 30] }, type := 30, pos := "ref.go:225", after := #[{ on := 5, ground := Ground.data }, { on := 11, ground := Ground.data }, { on := 5, ground := Ground.chain }], guard := none }, { dst := some 62, op := Op.fieldAddr 33 (Operand.tmp 4) 0, type := 0, pos := "ref.go:225", after := #[], guard := none }, { dst := some 63, op := Op.load 30 (Operand.tmp 62), type := 30, pos := "ref.go:225", after := #[{ on := 13, ground := Ground.data }], guard := none }, { dst := some 64, op := Op.move (Operand.tmp 6), type := 3, pos := "ref.go:225", after := #[], guard := none }, { dst := some 65, op := Op.slice 30 (Operand.tmp 63) (some (Operand.tmp 64)) none none, type := 30, pos := "ref.go:225", after := #[{ on := 14, ground := Ground.data }, { on := 15, ground := Ground.data }], guard := none }, { dst := some 66, op := Op.call { callee := Callee.builtin Builtin.append, args := #[Operand.tmp 61, Operand.tmp 65], argTypes := #[30, 30] }, type := 30, pos := "ref.go:225", after := #[{ on := 12, ground := Ground.data }, { on := 16, ground := Ground.data }, { on := 12, ground := Ground.chain }], guard := none }, { dst := some 67, op := Op.fieldAddr 33 (Operand.tmp 4) 0, type := 0, pos := "ref.go:225", after := #[{ on := 0, ground := Ground.phase }, { on := 1, ground := Ground.phase }, { on := 2, ground := Ground.phase }, { on := 3, ground := Ground.phase }, { on := 4, ground := Ground.phase }, { on := 5, ground := Ground.phase }, { on := 6, ground := Ground.phase }, { on := 7, ground := Ground.phase }, { on := 8, ground := Ground.phase }, { on := 9, ground := Ground.phase }, { on := 10, ground := Ground.phase }, { on := 11, ground := Ground.phase }, { on := 12, ground := Ground.phase }, { on := 13, ground := Ground.phase }, { on := 14, ground := Ground.phase }, { on := 15, ground := Ground.phase }, { on := 16, ground := Ground.phase }, { on := 17, ground := Ground.phase }], guard := none }, { dst := none, op := Op.store 30 (Operand.tmp 67) (Operand.tmp 66), type := 0, pos := "ref.go:225", after := #[{ on := 18, ground := Ground.data }, { on := 17, ground := Ground.data }, { on := 17, ground := Ground.chain }, { on := 0, ground := Ground.phase }, { on := 1, ground := Ground.phase }, { on := 2, ground := Ground.phase }, { on := 3, ground := Ground.phase }, { on := 4, ground := Ground.phase }, { on := 5, ground := Ground.phase }, { on := 6, ground := Ground.phase }, { on := 7, ground := Ground.phase }, { on := 8, ground := Ground.phase }, { on := 9, ground := Ground.phase }, { on := 10, ground := Ground.phase }, { on := 11, ground := Ground.phase }, { on := 12, ground := Ground.phase }, { on := 13, ground := Ground.phase }, { on := 14, ground := Ground.phase }, { on := 15, ground := Ground.phase }, { on := 16, ground := Ground.phase }, { on := 17, ground := Ground.phase }], guard := none }] true).wp Tryz.prog Q { tmps := (A0::.pointer (some ⟨b1, 0, none⟩)::A2::A3::.pointer (some ⟨b4, 0, none⟩)::.int .i64 (i : Int)::.int .i64 (j : Int)::A7::A8::A9::B0::B1::B2::B3::B4::B5::B6::B7::B8::B9::C0::C1::C2::C3::C4::C5::C6::C7::C8::C9::D0::D1::D2::D3::D4::D5::D6::D7::D8::D9::E0::E1::E2::E3::E4::E5::E6::E7::E8::E9::F0::F1::F2::F3::F4::F5::F6::F7::F8::F9::G0::G1::G2::G3::G4::G5::G6::G7::G8::G9::H0::H1::H2::H3::H4::H5::H6::H7::H8::H9::I0::I1::I2::I3::I4::I5::I6::I7::I8::I9::J0::J1::J2::J3::J4::J5::J6::J7::J8::J9::K0::K1::K2::K3::K4::K5::K6::K7::K8::K9::L0::L1::L2::L3::L4::L5::L6::L7::L8::L9::M0::M1::M2::M3::M4::M5::M6::M7::M8::M9::N0::N1::N2::N3::N4::N5::[]).toArray, defers := [] } W0 := by
  obtain ⟨i0, hi, hz0, hz1, hz2⟩ := info34
  obtain ⟨W, hWd⟩ : ∃ W, W = W0.drew := ⟨_, rfl⟩
  have hszd : W.heap.size = W0.heap.size := by rw [hWd]; rfl
  have hbd : Below W0.heap.size W0 W := by rw [hWd]; exact (Below.refl _ W0).drew
  have hV := hV0.next hbd
  have hT := hT0.next hbd
  have hU := hU0.next hbd
  have hiz : (i : Int) < (n : Int) := by omega
  have hC := hC0.next hbd
  have hjz : (j : Int) ≤ (l.length : Int) := by omega
  have hjc : (j : Int) ≤ (c : Int) := by omega
  have hA2 : ∀ W', Below W.heap.size W W' → ∀ q u, ((l.drop j).flatMap seatC)[q]? = some u → W'.cell? (A.add q) = some u := by
    intro W' hb q u hq
    by_cases hcj : c = j
    · have hd : l.drop j = [] := List.drop_of_length_le (by omega)
      rw [hd] at hq; simp at hq
    · rw [if_neg hcj] at hA
      injection hA with hA
      subst hA
      rw [Addr.add_lit]
      have := (hC.next hb).flat_dropG seatC_len (by omega) hj q u hq
      simpa using this
  have hn := dstInss_apart
  show (Code.region 8 opsInss true).wp Tryz.prog Q _ W0
  refine wp_region_inv (by kernel_rfl) (fun listed a w => Slots { tmps := (A0::.pointer (some ⟨b1, 0, none⟩)::A2::A3::.pointer (some ⟨b4, 0, none⟩)::.int .i64 (i : Int)::.int .i64 (j : Int)::A7::A8::A9::B0::B1::B2::B3::B4::B5::B6::B7::B8::B9::C0::C1::C2::C3::C4::C5::C6::C7::C8::C9::D0::D1::D2::D3::D4::D5::D6::D7::D8::D9::E0::E1::E2::E3::E4::E5::E6::E7::E8::E9::F0::F1::F2::F3::F4::F5::F6::F7::F8::F9::G0::G1::G2::G3::G4::G5::G6::G7::G8::G9::H0::H1::H2::H3::H4::H5::H6::H7::H8::H9::I0::I1::I2::I3::I4::I5::I6::I7::I8::I9::J0::J1::J2::J3::J4::J5::J6::J7::J8::J9::K0::K1::K2::K3::K4::K5::K6::K7::K8::K9::L0::L1::L2::L3::L4::L5::L6::L7::L8::L9::M0::M1::M2::M3::M4::M5::M6::M7::M8::M9::N0::N1::N2::N3::N4::N5::[]).toArray, defers := [] } dstInss [none, some (.pointer (some ⟨b4, 0, none⟩)), some (.slice (some ⟨b, off, none⟩) l.length c), some (.int .i64 (j : Int)), some (.slice (some ⟨b, off, none⟩) j c), none, some (.pointer (some ⟨b1, 0, none⟩)), some (.slice (some ⟨vb, vo, none⟩) n vc), some (.int .i64 (i : Int)), some (.pointer (some ⟨vb, vo + i * 4, none⟩)), some (seatV r x y kk), none, none, some (.pointer (some ⟨b4, 0, none⟩)), some (.slice (some ⟨b, off, none⟩) l.length c), some (.int .i64 (j : Int)), some (.slice (some A) (l.length - j) (c - j)), none, some (.pointer (some ⟨b4, 0, none⟩)), none] listed a ∧ ((listed.getD 19 false = false ∧ Below W.heap.size W w ∧ InsG l j ⟨r, x, y, kk⟩ W listed a w) ∨ (listed.getD 19 false = true ∧ ∃ w1 a13 c13, w = w1.setCell ⟨b4, 0, none⟩ (.slice a13 (l.length + 1) c13) ∧ Below W.heap.size W w1 ∧ a.tmps[66]? = some (.slice a13 (l.length + 1) c13) ∧ w1.ownsRow W.heap.size 45 4 (.slice a13 (l.length + 1) c13) (l.length + 1) ((l.take j).flatMap seatC ++ seatC ⟨r, x, y, kk⟩ ++ (l.drop j).flatMap seatC)))) (by kernel_rfl) ?_ ?_ ?_
  · refine ⟨Slots.start _ _ _ _, .inl ⟨start_false _ _, by rw [hWd]; exact Below.refl _ _, .slice none 0 0, 0, ?_, ?_, ?_, ?_, ?_⟩⟩
    all_goals first | (intro _ h; rw [start_false] at h; cases h; done) | (intro h; rw [start_false] at h; cases h; done) | (trace_state; skip)
  · intro listed a w i' hsl hilt hl hd hcl ⟨hS, hI⟩
    have hsz : Hid (a.tmps.size = 136) := hS.size
    have hls : i' < listed.size := by rw [hsl]; exact hilt
    have hcase : i' = 0 ∨ i' = 1 ∨ i' = 2 ∨ i' = 3 ∨ i' = 4 ∨ i' = 5 ∨ i' = 6 ∨ i' = 7 ∨ i' = 8 ∨ i' = 9 ∨ i' = 10 ∨ i' = 11 ∨ i' = 12 ∨ i' = 13 ∨ i' = 14 ∨ i' = 15 ∨ i' = 16 ∨ i' = 17 ∨ i' = 18 ∨ i' = 19 := by
      have : i' < 20 := hilt
      omega
    rcases hcase with rfl | rfl | rfl | rfl | rfl | rfl | rfl | rfl | rfl | rfl | rfl | rfl | rfl | rfl | rfl | rfl | rfl | rfl | rfl | rfl
    ·
      refine wpOp_step (o := { dst := some 49, op := Op.buildSlice 30 0 #[], type := 30, pos := "ref.go:225", after := #[], guard := none }) rfl ?_
      intro K hK
      have h19 : listed.getD 19 false = false := by
        cases h : listed.getD 19 false with
        | false => rfl
        | true => rw [hcl 19 0 h (of_decide_eq_true (by kernel_rfl))] at hl; cases hl
      obtain ⟨hb, hG⟩ : Below W.heap.size W w ∧ InsG l j ⟨r, x, y, kk⟩ W listed a w := by
        rcases hI with ⟨_, hb, hG⟩ | ⟨h, _⟩
        · exact ⟨hb, hG⟩
        · rw [h19] at h; cases h
      have n5 : listed.getD 5 false = false := by
        cases h : listed.getD 5 false with
        | false => rfl
        | true => rw [hcl 5 0 h (of_decide_eq_true (by kernel_rfl))] at hl; cases hl
      have n12 : listed.getD 12 false = false := by
        cases h : listed.getD 12 false with
        | false => rfl
        | true => rw [hcl 12 5 h (of_decide_eq_true (by kernel_rfl))] at n5; cases n5
      have n17 : listed.getD 17 false = false := by
        cases h : listed.getD 17 false with
        | false => rfl
        | true => rw [hcl 17 12 h (of_decide_eq_true (by kernel_rfl))] at n12; cases n12
      go_simp
      refine hK _ _ ⟨(hS.put hn 0 49 _ rfl (by show 49 < 136; omega) (fun u h => by injection h with h; cases h)), .inl ⟨by rw [getD_set hls, if_neg (by omega)]; exact h19, hb.alloc hb.size _, ?_⟩⟩
      exact hG.first hls hsz.out n5 n12 n17 hb.size
    ·
      refine wpOp_step (o := { dst := some 50, op := Op.fieldAddr 33 (Operand.tmp 4) 0, type := 0, pos := "ref.go:225", after := #[], guard := none }) rfl ?_
      intro K hK
      have h19 : listed.getD 19 false = false := by
        cases h : listed.getD 19 false with
        | false => rfl
        | true => rw [hcl 19 1 h (of_decide_eq_true (by kernel_rfl))] at hl; cases hl
      obtain ⟨hb, hG⟩ : Below W.heap.size W w ∧ InsG l j ⟨r, x, y, kk⟩ W listed a w := by
        rcases hI with ⟨_, hb, hG⟩ | ⟨h, _⟩
        · exact ⟨hb, hG⟩
        · rw [h19] at h; cases h
      have q4 : a.tmps[4]? = some (.pointer (some ⟨b4, 0, none⟩)) := (hS.keep 4 (of_decide_eq_true (by kernel_rfl))).trans rfl
      go_simp
      exact hK _ _ ⟨(hS.put hn 1 50 _ rfl (by show 50 < 136; omega) (fun u h => by injection h with h; injection h with h; exact h.symm)), .inl ⟨by rw [getD_set hls, if_neg (by omega)]; exact h19, hb, hG.same (by omega) hls (by simp) (by simp) (by simp) (by simp) (by simp)⟩⟩
    ·
      refine wpOp_step (o := { dst := some 51, op := Op.load 30 (Operand.tmp 50), type := 30, pos := "ref.go:225", after := #[{ on := 1, ground := Ground.data }], guard := none }) rfl ?_
      intro K hK
      have h19 : listed.getD 19 false = false := by
        cases h : listed.getD 19 false with
        | false => rfl
        | true => rw [hcl 19 2 h (of_decide_eq_true (by kernel_rfl))] at hl; cases hl
      obtain ⟨hb, hG⟩ : Below W.heap.size W w ∧ InsG l j ⟨r, x, y, kk⟩ W listed a w := by
        rcases hI with ⟨_, hb, hG⟩ | ⟨h, _⟩
        · exact ⟨hb, hG⟩
        · rw [h19] at h; cases h
      have q50 : a.tmps[50]? = some (.pointer (some ⟨b4, 0, none⟩)) := hS.val 1 50 _ (hd 1 (of_decide_eq_true (by kernel_rfl))) rfl rfl
      have m0 := (hU.next hb).cell 0 _ rfl
      go_simp
      exact hK _ _ ⟨(hS.put hn 2 51 _ rfl (by show 51 < 136; omega) (fun u h => by injection h with h; injection h with h; exact h.symm)), .inl ⟨by rw [getD_set hls, if_neg (by omega)]; exact h19, hb, hG.same (by omega) hls (by simp) (by simp) (by simp) (by simp) (by simp)⟩⟩
    ·
      refine wpOp_step (o := { dst := some 52, op := Op.move (Operand.tmp 6), type := 3, pos := "ref.go:225", after := #[], guard := none }) rfl ?_
      intro K hK
      have h19 : listed.getD 19 false = false := by
        cases h : listed.getD 19 false with
        | false => rfl
        | true => rw [hcl 19 3 h (of_decide_eq_true (by kernel_rfl))] at hl; cases hl
      obtain ⟨hb, hG⟩ : Below W.heap.size W w ∧ InsG l j ⟨r, x, y, kk⟩ W listed a w := by
        rcases hI with ⟨_, hb, hG⟩ | ⟨h, _⟩
        · exact ⟨hb, hG⟩
        · rw [h19] at h; cases h
      have q6 : a.tmps[6]? = some (.int .i64 (j : Int)) := (hS.keep 6 (of_decide_eq_true (by kernel_rfl))).trans rfl
      go_simp
      exact hK _ _ ⟨(hS.put hn 3 52 _ rfl (by show 52 < 136; omega) (fun u h => by injection h with h; injection h with h; exact h.symm)), .inl ⟨by rw [getD_set hls, if_neg (by omega)]; exact h19, hb, hG.same (by omega) hls (by simp) (by simp) (by simp) (by simp) (by simp)⟩⟩
    ·
      refine wpOp_step (o := { dst := some 53, op := Op.slice 30 (Operand.tmp 51) none (some (Operand.tmp 52)) none, type := 30, pos := "ref.go:225", after := #[{ on := 2, ground := Ground.data }, { on := 3, ground := Ground.data }], guard := none }) rfl ?_
      intro K hK
      have h19 : listed.getD 19 false = false := by
        cases h : listed.getD 19 false with
        | false => rfl
        | true => rw [hcl 19 4 h (of_decide_eq_true (by kernel_rfl))] at hl; cases hl
      obtain ⟨hb, hG⟩ : Below W.heap.size W w ∧ InsG l j ⟨r, x, y, kk⟩ W listed a w := by
        rcases hI with ⟨_, hb, hG⟩ | ⟨h, _⟩
        · exact ⟨hb, hG⟩
        · rw [h19] at h; cases h
      have q51 : a.tmps[51]? = some (.slice (some ⟨b, off, none⟩) l.length c) := hS.val 2 51 _ (hd 2 (of_decide_eq_true (by kernel_rfl))) rfl rfl
      have q52 : a.tmps[52]? = some (.int .i64 (j : Int)) := hS.val 3 52 _ (hd 3 (of_decide_eq_true (by kernel_rfl))) rfl rfl
      go_simp
      exact hK _ _ ⟨(hS.put hn 4 53 _ rfl (by show 53 < 136; omega) (fun u h => by injection h with h; injection h with h; exact h.symm)), .inl ⟨by rw [getD_set hls, if_neg (by omega)]; exact h19, hb, hG.same (by omega) hls (by simp) (by simp) (by simp) (by simp) (by simp)⟩⟩
    ·
      refine wpOp_step (o := { dst := some 54, op := Op.call { callee := Callee.builtin Builtin.append, args := #[Operand.tmp 49, Operand.tmp 53], argTypes := #[30, 30] }, type := 30, pos := "ref.go:225", after := #[{ on := 0, ground := Ground.data }, { on := 4, ground := Ground.data }], guard := none }) rfl ?_
      intro K hK
      have h19 : listed.getD 19 false = false := by
        cases h : listed.getD 19 false with
        | false => rfl
        | true => rw [hcl 19 5 h (of_decide_eq_true (by kernel_rfl))] at hl; cases hl
      obtain ⟨hb, hG⟩ : Below W.heap.size W w ∧ InsG l j ⟨r, x, y, kk⟩ W listed a w := by
        rcases hI with ⟨_, hb, hG⟩ | ⟨h, _⟩
        · exact ⟨hb, hG⟩
        · rw [h19] at h; cases h
      have n12 : listed.getD 12 false = false := by
        cases h : listed.getD 12 false with
        | false => rfl
        | true => rw [hcl 12 5 h (of_decide_eq_true (by kernel_rfl))] at hl; cases hl
      have n17 : listed.getD 17 false = false := by
        cases h : listed.getD 17 false with
        | false => rfl
        | true => rw [hcl 17 12 h (of_decide_eq_true (by kernel_rfl))] at n12; cases n12
      obtain ⟨rv, g7, _, _, _, h0, h11⟩ := hG
      obtain ⟨e0, hown⟩ := h0 hl (hd 0 (of_decide_eq_true (by kernel_rfl)))
      have q53 : a.tmps[53]? = some (.slice (some ⟨b, off, none⟩) j c) := hS.val 4 53 _ (hd 4 (of_decide_eq_true (by kernel_rfl))) rfl rfl
      refine step_append_own_at rfl _ _ 30 rfl W.heap.size 45 i0 (seatV 0 0 0 0) 4 32 Tryz.underlying30 hi hz0 hz1 hz2 rfl (by omega) _ _ _ (eval_of e0) hown ⟨b, off, none⟩ j c ((l.take j).flatMap seatC) (eval_of q53) (by rw [flat_len seatC 4 seatC_len, List.length_take, Nat.min_eq_left hj]) (fun q u hq => by rw [Addr.add_lit]; exact (hC.next hb).flat_takeG seatC_len (by omega) q u hq) (fun u hu => seat_one _ u hu) (by unfold maxLen; omega) (by omega) hb.size ?_
      intro v2 w2 hown2 hgr hloc
      rw [Nat.zero_add, List.nil_append] at hown2
      refine hK _ _ ⟨(hS.put hn 5 54 _ rfl (by show 54 < 136; omega) (fun u h => by injection h with h; cases h)), .inl ⟨by rw [getD_set hls, if_neg (by omega)]; exact h19, hb.grown hgr hb.size (row_high hown), ?_⟩⟩
      exact InsG.copied hls hsz.out n12 n17 (hd 0 (of_decide_eq_true (by kernel_rfl))) hl hown hown2 hgr hloc h11
    ·
      refine wpOp_step (o := { dst := some 55, op := Op.fieldAddr 33 (Operand.tmp 1) 0, type := 0, pos := "ref.go:225", after := #[], guard := none }) rfl ?_
      intro K hK
      have h19 : listed.getD 19 false = false := by
        cases h : listed.getD 19 false with
        | false => rfl
        | true => rw [hcl 19 6 h (of_decide_eq_true (by kernel_rfl))] at hl; cases hl
      obtain ⟨hb, hG⟩ : Below W.heap.size W w ∧ InsG l j ⟨r, x, y, kk⟩ W listed a w := by
        rcases hI with ⟨_, hb, hG⟩ | ⟨h, _⟩
        · exact ⟨hb, hG⟩
        · rw [h19] at h; cases h
      have q1 : a.tmps[1]? = some (.pointer (some ⟨b1, 0, none⟩)) := (hS.keep 1 (of_decide_eq_true (by kernel_rfl))).trans rfl
      go_simp
      exact hK _ _ ⟨(hS.put hn 6 55 _ rfl (by show 55 < 136; omega) (fun u h => by injection h with h; injection h with h; exact h.symm)), .inl ⟨by rw [getD_set hls, if_neg (by omega)]; exact h19, hb, hG.same (by omega) hls (by simp) (by simp) (by simp) (by simp) (by simp)⟩⟩
    ·
      refine wpOp_step (o := { dst := some 56, op := Op.load 30 (Operand.tmp 55), type := 30, pos := "ref.go:225", after := #[{ on := 6, ground := Ground.data }], guard := none }) rfl ?_
      intro K hK
      have h19 : listed.getD 19 false = false := by
        cases h : listed.getD 19 false with
        | false => rfl
        | true => rw [hcl 19 7 h (of_decide_eq_true (by kernel_rfl))] at hl; cases hl
      obtain ⟨hb, hG⟩ : Below W.heap.size W w ∧ InsG l j ⟨r, x, y, kk⟩ W listed a w := by
        rcases hI with ⟨_, hb, hG⟩ | ⟨h, _⟩
        · exact ⟨hb, hG⟩
        · rw [h19] at h; cases h
      have q55 : a.tmps[55]? = some (.pointer (some ⟨b1, 0, none⟩)) := hS.val 6 55 _ (hd 6 (of_decide_eq_true (by kernel_rfl))) rfl rfl
      have m0 := (hV.next hb).cell 0 _ rfl
      go_simp
      exact hK _ _ ⟨(hS.put hn 7 56 _ rfl (by show 56 < 136; omega) (fun u h => by injection h with h; injection h with h; exact h.symm)), .inl ⟨by rw [getD_set hls, if_neg (by omega)]; exact h19, hb, hG.same (by omega) hls (by simp) (by simp) (by simp) (by simp) (by simp)⟩⟩
    ·
      refine wpOp_step (o := { dst := some 57, op := Op.move (Operand.tmp 5), type := 3, pos := "ref.go:225", after := #[], guard := none }) rfl ?_
      intro K hK
      have h19 : listed.getD 19 false = false := by
        cases h : listed.getD 19 false with
        | false => rfl
        | true => rw [hcl 19 8 h (of_decide_eq_true (by kernel_rfl))] at hl; cases hl
      obtain ⟨hb, hG⟩ : Below W.heap.size W w ∧ InsG l j ⟨r, x, y, kk⟩ W listed a w := by
        rcases hI with ⟨_, hb, hG⟩ | ⟨h, _⟩
        · exact ⟨hb, hG⟩
        · rw [h19] at h; cases h
      have q5 : a.tmps[5]? = some (.int .i64 (i : Int)) := (hS.keep 5 (of_decide_eq_true (by kernel_rfl))).trans rfl
      go_simp
      exact hK _ _ ⟨(hS.put hn 8 57 _ rfl (by show 57 < 136; omega) (fun u h => by injection h with h; injection h with h; exact h.symm)), .inl ⟨by rw [getD_set hls, if_neg (by omega)]; exact h19, hb, hG.same (by omega) hls (by simp) (by simp) (by simp) (by simp) (by simp)⟩⟩
    ·
      refine wpOp_step (o := { dst := some 58, op := Op.indexAddr 30 (Operand.tmp 56) (Operand.tmp 57), type := 0, pos := "ref.go:225", after := #[{ on := 7, ground := Ground.data }, { on := 8, ground := Ground.data }], guard := none }) rfl ?_
      intro K hK
      have h19 : listed.getD 19 false = false := by
        cases h : listed.getD 19 false with
        | false => rfl
        | true => rw [hcl 19 9 h (of_decide_eq_true (by kernel_rfl))] at hl; cases hl
      obtain ⟨hb, hG⟩ : Below W.heap.size W w ∧ InsG l j ⟨r, x, y, kk⟩ W listed a w := by
        rcases hI with ⟨_, hb, hG⟩ | ⟨h, _⟩
        · exact ⟨hb, hG⟩
        · rw [h19] at h; cases h
      have q56 : a.tmps[56]? = some (.slice (some ⟨vb, vo, none⟩) n vc) := hS.val 7 56 _ (hd 7 (of_decide_eq_true (by kernel_rfl))) rfl rfl
      have q57 : a.tmps[57]? = some (.int .i64 (i : Int)) := hS.val 8 57 _ (hd 8 (of_decide_eq_true (by kernel_rfl))) rfl rfl
      go_simp
      exact hK _ _ ⟨(hS.put hn 9 58 _ rfl (by show 58 < 136; omega) (fun u h => by injection h with h; injection h with h; exact h.symm)), .inl ⟨by rw [getD_set hls, if_neg (by omega)]; exact h19, hb, hG.same (by omega) hls (by simp) (by simp) (by simp) (by simp) (by simp)⟩⟩
    ·
      refine wpOp_step (o := { dst := some 59, op := Op.load 45 (Operand.tmp 58), type := 45, pos := "ref.go:225", after := #[{ on := 9, ground := Ground.data }], guard := none }) rfl ?_
      intro K hK
      have h19 : listed.getD 19 false = false := by
        cases h : listed.getD 19 false with
        | false => rfl
        | true => rw [hcl 19 10 h (of_decide_eq_true (by kernel_rfl))] at hl; cases hl
      obtain ⟨hb, hG⟩ : Below W.heap.size W w ∧ InsG l j ⟨r, x, y, kk⟩ W listed a w := by
        rcases hI with ⟨_, hb, hG⟩ | ⟨h, _⟩
        · exact ⟨hb, hG⟩
        · rw [h19] at h; cases h
      have q58 : a.tmps[58]? = some (.pointer (some ⟨vb, vo + i * 4, none⟩)) := hS.val 9 58 _ (hd 9 (of_decide_eq_true (by kernel_rfl))) rfl rfl
      obtain ⟨_, m0, m1, m2, m3⟩ := hT.next hb
      go_simp
      exact hK _ _ ⟨(hS.put hn 10 59 _ rfl (by show 59 < 136; omega) (fun u h => by injection h with h; injection h with h; exact h.symm)), .inl ⟨by rw [getD_set hls, if_neg (by omega)]; exact h19, hb, hG.same (by omega) hls (by simp) (by simp) (by simp) (by simp) (by simp)⟩⟩
    ·
      refine wpOp_step (o := { dst := some 60, op := Op.buildSlice 30 1 #[(0, Operand.tmp 59)], type := 30, pos := "ref.go:225", after := #[{ on := 10, ground := Ground.data }], guard := none }) rfl ?_
      intro K hK
      have h19 : listed.getD 19 false = false := by
        cases h : listed.getD 19 false with
        | false => rfl
        | true => rw [hcl 19 11 h (of_decide_eq_true (by kernel_rfl))] at hl; cases hl
      obtain ⟨hb, hG⟩ : Below W.heap.size W w ∧ InsG l j ⟨r, x, y, kk⟩ W listed a w := by
        rcases hI with ⟨_, hb, hG⟩ | ⟨h, _⟩
        · exact ⟨hb, hG⟩
        · rw [h19] at h; cases h
      have n12 : listed.getD 12 false = false := by
        cases h : listed.getD 12 false with
        | false => rfl
        | true => rw [hcl 12 11 h (of_decide_eq_true (by kernel_rfl))] at hl; cases hl
      have n17 : listed.getD 17 false = false := by
        cases h : listed.getD 17 false with
        | false => rfl
        | true => rw [hcl 17 12 h (of_decide_eq_true (by kernel_rfl))] at n12; cases n12
      have q59 : a.tmps[59]? = some (seatV r x y kk) := hS.val 10 59 _ (hd 10 (of_decide_eq_true (by kernel_rfl))) rfl rfl
      go_simp
      refine hK _ _ ⟨(hS.put hn 11 60 _ rfl (by show 60 < 136; omega) (fun u h => by injection h with h; cases h)), .inl ⟨by rw [getD_set hls, if_neg (by omega)]; exact h19, hb.alloc hb.size _, ?_⟩⟩
      exact hG.one hls hsz.out n12 n17
    ·
      refine wpOp_step (o := { dst := some 61, op := Op.call { callee := Callee.builtin Builtin.append, args := #[Operand.tmp 54, Operand.tmp 60], argTypes := #[30, 30] }, type := 30, pos := "ref.go:225", after := #[{ on := 5, ground := Ground.data }, { on := 11, ground := Ground.data }, { on := 5, ground := Ground.chain }], guard := none }) rfl ?_
      intro K hK
      have h19 : listed.getD 19 false = false := by
        cases h : listed.getD 19 false with
        | false => rfl
        | true => rw [hcl 19 12 h (of_decide_eq_true (by kernel_rfl))] at hl; cases hl
      obtain ⟨hb, hG⟩ : Below W.heap.size W w ∧ InsG l j ⟨r, x, y, kk⟩ W listed a w := by
        rcases hI with ⟨_, hb, hG⟩ | ⟨h, _⟩
        · exact ⟨hb, hG⟩
        · rw [h19] at h; cases h
      have n17 : listed.getD 17 false = false := by
        cases h : listed.getD 17 false with
        | false => rfl
        | true => rw [hcl 17 12 h (of_decide_eq_true (by kernel_rfl))] at hl; cases hl
      obtain ⟨rv, g7, _, _, h5, _, h11⟩ := hG
      obtain ⟨e5, hown⟩ := h5 hl (hd 5 (of_decide_eq_true (by kernel_rfl)))
      obtain ⟨e11, hS7, _⟩ := h11 (hd 11 (of_decide_eq_true (by kernel_rfl))) hl
      refine step_append_own_at rfl _ _ 30 rfl W.heap.size 45 i0 (seatV 0 0 0 0) 4 32 Tryz.underlying30 hi hz0 hz1 hz2 rfl (by omega) _ _ _ (eval_of e5) hown ⟨g7, 0, none⟩ 1 1 (seatC ⟨r, x, y, kk⟩) (eval_of e11) rfl (fun q u hq => by rw [Addr.add_lit, Nat.zero_add]; exact hS7.cell q u (by show (seatC ⟨r, x, y, kk⟩).toArray[q]? = some u; rw [List.getElem?_toArray]; exact hq)) (fun u hu => seat_one [⟨r, x, y, kk⟩] u (by simpa using hu)) (by unfold maxLen; omega) (by omega) hb.size ?_
      intro v2 w2 hown2 hgr hloc
      refine hK _ _ ⟨(hS.put hn 12 61 _ rfl (by show 61 < 136; omega) (fun u h => by injection h with h; cases h)), .inl ⟨by rw [getD_set hls, if_neg (by omega)]; exact h19, hb.grown hgr hb.size (row_high hown), ?_⟩⟩
      exact InsG.put hls hsz.out n17 (hd 5 (of_decide_eq_true (by kernel_rfl))) hown2
    ·
      refine wpOp_step (o := { dst := some 62, op := Op.fieldAddr 33 (Operand.tmp 4) 0, type := 0, pos := "ref.go:225", after := #[], guard := none }) rfl ?_
      intro K hK
      have h19 : listed.getD 19 false = false := by
        cases h : listed.getD 19 false with
        | false => rfl
        | true => rw [hcl 19 13 h (of_decide_eq_true (by kernel_rfl))] at hl; cases hl
      obtain ⟨hb, hG⟩ : Below W.heap.size W w ∧ InsG l j ⟨r, x, y, kk⟩ W listed a w := by
        rcases hI with ⟨_, hb, hG⟩ | ⟨h, _⟩
        · exact ⟨hb, hG⟩
        · rw [h19] at h; cases h
      have q4 : a.tmps[4]? = some (.pointer (some ⟨b4, 0, none⟩)) := (hS.keep 4 (of_decide_eq_true (by kernel_rfl))).trans rfl
      go_simp
      exact hK _ _ ⟨(hS.put hn 13 62 _ rfl (by show 62 < 136; omega) (fun u h => by injection h with h; injection h with h; exact h.symm)), .inl ⟨by rw [getD_set hls, if_neg (by omega)]; exact h19, hb, hG.same (by omega) hls (by simp) (by simp) (by simp) (by simp) (by simp)⟩⟩
    ·
      refine wpOp_step (o := { dst := some 63, op := Op.load 30 (Operand.tmp 62), type := 30, pos := "ref.go:225", after := #[{ on := 13, ground := Ground.data }], guard := none }) rfl ?_
      intro K hK
      have h19 : listed.getD 19 false = false := by
        cases h : listed.getD 19 false with
        | false => rfl
        | true => rw [hcl 19 14 h (of_decide_eq_true (by kernel_rfl))] at hl; cases hl
      obtain ⟨hb, hG⟩ : Below W.heap.size W w ∧ InsG l j ⟨r, x, y, kk⟩ W listed a w := by
        rcases hI with ⟨_, hb, hG⟩ | ⟨h, _⟩
        · exact ⟨hb, hG⟩
        · rw [h19] at h; cases h
      have q62 : a.tmps[62]? = some (.pointer (some ⟨b4, 0, none⟩)) := hS.val 13 62 _ (hd 13 (of_decide_eq_true (by kernel_rfl))) rfl rfl
      have m0 := (hU.next hb).cell 0 _ rfl
      go_simp
      exact hK _ _ ⟨(hS.put hn 14 63 _ rfl (by show 63 < 136; omega) (fun u h => by injection h with h; injection h with h; exact h.symm)), .inl ⟨by rw [getD_set hls, if_neg (by omega)]; exact h19, hb, hG.same (by omega) hls (by simp) (by simp) (by simp) (by simp) (by simp)⟩⟩
    ·
      refine wpOp_step (o := { dst := some 64, op := Op.move (Operand.tmp 6), type := 3, pos := "ref.go:225", after := #[], guard := none }) rfl ?_
      intro K hK
      have h19 : listed.getD 19 false = false := by
        cases h : listed.getD 19 false with
        | false => rfl
        | true => rw [hcl 19 15 h (of_decide_eq_true (by kernel_rfl))] at hl; cases hl
      obtain ⟨hb, hG⟩ : Below W.heap.size W w ∧ InsG l j ⟨r, x, y, kk⟩ W listed a w := by
        rcases hI with ⟨_, hb, hG⟩ | ⟨h, _⟩
        · exact ⟨hb, hG⟩
        · rw [h19] at h; cases h
      have q6 : a.tmps[6]? = some (.int .i64 (j : Int)) := (hS.keep 6 (of_decide_eq_true (by kernel_rfl))).trans rfl
      go_simp
      exact hK _ _ ⟨(hS.put hn 15 64 _ rfl (by show 64 < 136; omega) (fun u h => by injection h with h; injection h with h; exact h.symm)), .inl ⟨by rw [getD_set hls, if_neg (by omega)]; exact h19, hb, hG.same (by omega) hls (by simp) (by simp) (by simp) (by simp) (by simp)⟩⟩
    ·
      refine wpOp_step (o := { dst := some 65, op := Op.slice 30 (Operand.tmp 63) (some (Operand.tmp 64)) none none, type := 30, pos := "ref.go:225", after := #[{ on := 14, ground := Ground.data }, { on := 15, ground := Ground.data }], guard := none }) rfl ?_
      intro K hK
      have h19 : listed.getD 19 false = false := by
        cases h : listed.getD 19 false with
        | false => rfl
        | true => rw [hcl 19 16 h (of_decide_eq_true (by kernel_rfl))] at hl; cases hl
      obtain ⟨hb, hG⟩ : Below W.heap.size W w ∧ InsG l j ⟨r, x, y, kk⟩ W listed a w := by
        rcases hI with ⟨_, hb, hG⟩ | ⟨h, _⟩
        · exact ⟨hb, hG⟩
        · rw [h19] at h; cases h
      have q63 : a.tmps[63]? = some (.slice (some ⟨b, off, none⟩) l.length c) := hS.val 14 63 _ (hd 14 (of_decide_eq_true (by kernel_rfl))) rfl rfl
      have q64 : a.tmps[64]? = some (.int .i64 (j : Int)) := hS.val 15 64 _ (hd 15 (of_decide_eq_true (by kernel_rfl))) rfl rfl
      go_simp
      exact hK _ _ ⟨(hS.put hn 16 65 _ rfl (by show 65 < 136; omega) (fun u h => by injection h with h; injection h with h; exact h.symm)), .inl ⟨by rw [getD_set hls, if_neg (by omega)]; exact h19, hb, hG.same (by omega) hls (by simp) (by simp) (by simp) (by simp) (by simp)⟩⟩
    ·
      refine wpOp_step (o := { dst := some 66, op := Op.call { callee := Callee.builtin Builtin.append, args := #[Operand.tmp 61, Operand.tmp 65], argTypes := #[30, 30] }, type := 30, pos := "ref.go:225", after := #[{ on := 12, ground := Ground.data }, { on := 16, ground := Ground.data }, { on := 12, ground := Ground.chain }], guard := none }) rfl ?_
      intro K hK
      have h19 : listed.getD 19 false = false := by
        cases h : listed.getD 19 false with
        | false => rfl
        | true => rw [hcl 19 17 h (of_decide_eq_true (by kernel_rfl))] at hl; cases hl
      obtain ⟨hb, hG⟩ : Below W.heap.size W w ∧ InsG l j ⟨r, x, y, kk⟩ W listed a w := by
        rcases hI with ⟨_, hb, hG⟩ | ⟨h, _⟩
        · exact ⟨hb, hG⟩
        · rw [h19] at h; cases h
      obtain ⟨rv, g7, _, h12, _, _, _⟩ := hG
      obtain ⟨e12, hown⟩ := h12 hl (hd 12 (of_decide_eq_true (by kernel_rfl)))
      have q65 : a.tmps[65]? = some (.slice (some A) (l.length - j) (c - j)) := hS.val 16 65 _ (hd 16 (of_decide_eq_true (by kernel_rfl))) rfl rfl
      refine step_append_own_at rfl _ _ 30 rfl W.heap.size 45 i0 (seatV 0 0 0 0) 4 32 Tryz.underlying30 hi hz0 hz1 hz2 rfl (by omega) _ _ _ (eval_of e12) hown A (l.length - j) (c - j) ((l.drop j).flatMap seatC) (eval_of q65) (by rw [flat_len seatC 4 seatC_len, List.length_drop]) (fun q u hq => hA2 w hb q u hq) (fun u hu => seat_one _ u hu) (by unfold maxLen; omega) (by omega) hb.size ?_
      intro v2 w2 hown2 hgr hloc
      rw [show j + 1 + (l.length - j) = l.length + 1 by omega] at hown2
      refine hK _ _ ⟨(hS.put hn 17 66 _ rfl (by show 66 < 136; omega) (fun u h => by injection h with h; cases h)), .inl ⟨by rw [getD_set hls, if_neg (by omega)]; exact h19, hb.grown hgr hb.size (row_high hown), ?_⟩⟩
      exact InsG.all hls hsz.out (hd 12 (of_decide_eq_true (by kernel_rfl))) (hcl 12 5 (hd 12 (of_decide_eq_true (by kernel_rfl))) (of_decide_eq_true (by kernel_rfl))) hown2
    ·
      refine wpOp_step (o := { dst := some 67, op := Op.fieldAddr 33 (Operand.tmp 4) 0, type := 0, pos := "ref.go:225", after := #[{ on := 0, ground := Ground.phase }, { on := 1, ground := Ground.phase }, { on := 2, ground := Ground.phase }, { on := 3, ground := Ground.phase }, { on := 4, ground := Ground.phase }, { on := 5, ground := Ground.phase }, { on := 6, ground := Ground.phase }, { on := 7, ground := Ground.phase }, { on := 8, ground := Ground.phase }, { on := 9, ground := Ground.phase }, { on := 10, ground := Ground.phase }, { on := 11, ground := Ground.phase }, { on := 12, ground := Ground.phase }, { on := 13, ground := Ground.phase }, { on := 14, ground := Ground.phase }, { on := 15, ground := Ground.phase }, { on := 16, ground := Ground.phase }, { on := 17, ground := Ground.phase }], guard := none }) rfl ?_
      intro K hK
      have h19 : listed.getD 19 false = false := by
        cases h : listed.getD 19 false with
        | false => rfl
        | true => rw [hcl 19 18 h (of_decide_eq_true (by kernel_rfl))] at hl; cases hl
      obtain ⟨hb, hG⟩ : Below W.heap.size W w ∧ InsG l j ⟨r, x, y, kk⟩ W listed a w := by
        rcases hI with ⟨_, hb, hG⟩ | ⟨h, _⟩
        · exact ⟨hb, hG⟩
        · rw [h19] at h; cases h
      have q4 : a.tmps[4]? = some (.pointer (some ⟨b4, 0, none⟩)) := (hS.keep 4 (of_decide_eq_true (by kernel_rfl))).trans rfl
      go_simp
      exact hK _ _ ⟨(hS.put hn 18 67 _ rfl (by show 67 < 136; omega) (fun u h => by injection h with h; injection h with h; exact h.symm)), .inl ⟨by rw [getD_set hls, if_neg (by omega)]; exact h19, hb, hG.same (by omega) hls (by simp) (by simp) (by simp) (by simp) (by simp)⟩⟩
    ·
      refine wpOp_step (o := { dst := none, op := Op.store 30 (Operand.tmp 67) (Operand.tmp 66), type := 0, pos := "ref.go:225", after := #[{ on := 18, ground := Ground.data }, { on := 17, ground := Ground.data }, { on := 17, ground := Ground.chain }, { on := 0, ground := Ground.phase }, { on := 1, ground := Ground.phase }, { on := 2, ground := Ground.phase }, { on := 3, ground := Ground.phase }, { on := 4, ground := Ground.phase }, { on := 5, ground := Ground.phase }, { on := 6, ground := Ground.phase }, { on := 7, ground := Ground.phase }, { on := 8, ground := Ground.phase }, { on := 9, ground := Ground.phase }, { on := 10, ground := Ground.phase }, { on := 11, ground := Ground.phase }, { on := 12, ground := Ground.phase }, { on := 13, ground := Ground.phase }, { on := 14, ground := Ground.phase }, { on := 15, ground := Ground.phase }, { on := 16, ground := Ground.phase }, { on := 17, ground := Ground.phase }], guard := none }) rfl ?_
      intro K hK
      obtain ⟨hb, hG⟩ : Below W.heap.size W w ∧ InsG l j ⟨r, x, y, kk⟩ W listed a w := by
        rcases hI with ⟨_, hb, hG⟩ | ⟨h, _⟩
        · exact ⟨hb, hG⟩
        · rw [hl] at h; cases h
      obtain ⟨rv, g7, h17, _, _, _, _⟩ := hG
      obtain ⟨e17, hown⟩ := h17 (hd 17 (of_decide_eq_true (by kernel_rfl)))
      obtain ⟨a13, c13, rfl⟩ := row_slice hown
      have q67 : a.tmps[67]? = some (.pointer (some ⟨b4, 0, none⟩)) := hS.val 18 67 _ (hd 18 (of_decide_eq_true (by kernel_rfl))) rfl rfl
      have hx := hU.next hb
      have m0 := hx.cell 0 _ rfl
      have mf := hx.frozen 0
      have ml := hx.lt
      go_simp
      exact hK _ _ ⟨hS.skip 19 rfl, .inr ⟨by rw [getD_set hls, if_pos rfl], w, a13, c13, rfl, hb, e17, hown⟩⟩
  · intro listed a w hall ⟨hS, hI⟩
    rcases hI with ⟨h, _⟩ | ⟨_, w1, a13, c13, rfl, hb, e17, hown⟩
    · rw [hall 19 (by show 19 < 20; omega)] at h; cases h
    · have hsz : a.tmps.size = 136 := hS.size
      obtain ⟨x0, hx0⟩ := slot_of (a := a) (k := 49) (by rw [hsz]; omega)
      obtain ⟨x5, hx5⟩ := slot_of (a := a) (k := 54) (by rw [hsz]; omega)
      obtain ⟨x11, hx11⟩ := slot_of (a := a) (k := 60) (by rw [hsz]; omega)
      obtain ⟨x12, hx12⟩ := slot_of (a := a) (k := 61) (by rw [hsz]; omega)
      have he := hS.frame [(49, x0), (50, .pointer (some ⟨b4, 0, none⟩)), (51, .slice (some ⟨b, off, none⟩) l.length c), (52, .int .i64 (j : Int)), (53, .slice (some ⟨b, off, none⟩) j c), (54, x5), (55, .pointer (some ⟨b1, 0, none⟩)), (56, .slice (some ⟨vb, vo, none⟩) n vc), (57, .int .i64 (i : Int)), (58, .pointer (some ⟨vb, vo + i * 4, none⟩)), (59, seatV r x y kk), (60, x11), (61, x12), (62, .pointer (some ⟨b4, 0, none⟩)), (63, .slice (some ⟨b, off, none⟩) l.length c), (64, .int .i64 (j : Int)), (65, .slice (some A) (l.length - j) (c - j)), (66, .slice a13 (l.length + 1) c13), (67, .pointer (some ⟨b4, 0, none⟩))] rfl (by show List.Pairwise _ [49, 50, 51, 52, 53, 54, 55, 56, 57, 58, 59, 60, 61, 62, 63, 64, 65, 66, 67]; decide) (by kernel_rfl) (List.forall_mem_cons.2 ⟨hx0, List.forall_mem_cons.2 ⟨hS.val 1 50 _ (hall 1 (by show 1 < 20; omega)) rfl rfl, List.forall_mem_cons.2 ⟨hS.val 2 51 _ (hall 2 (by show 2 < 20; omega)) rfl rfl, List.forall_mem_cons.2 ⟨hS.val 3 52 _ (hall 3 (by show 3 < 20; omega)) rfl rfl, List.forall_mem_cons.2 ⟨hS.val 4 53 _ (hall 4 (by show 4 < 20; omega)) rfl rfl, List.forall_mem_cons.2 ⟨hx5, List.forall_mem_cons.2 ⟨hS.val 6 55 _ (hall 6 (by show 6 < 20; omega)) rfl rfl, List.forall_mem_cons.2 ⟨hS.val 7 56 _ (hall 7 (by show 7 < 20; omega)) rfl rfl, List.forall_mem_cons.2 ⟨hS.val 8 57 _ (hall 8 (by show 8 < 20; omega)) rfl rfl, List.forall_mem_cons.2 ⟨hS.val 9 58 _ (hall 9 (by show 9 < 20; omega)) rfl rfl, List.forall_mem_cons.2 ⟨hS.val 10 59 _ (hall 10 (by show 10 < 20; omega)) rfl rfl, List.forall_mem_cons.2 ⟨hx11, List.forall_mem_cons.2 ⟨hx12, List.forall_mem_cons.2 ⟨hS.val 13 62 _ (hall 13 (by show 13 < 20; omega)) rfl rfl, List.forall_mem_cons.2 ⟨hS.val 14 63 _ (hall 14 (by show 14 < 20; omega)) rfl rfl, List.forall_mem_cons.2 ⟨hS.val 15 64 _ (hall 15 (by show 15 < 20; omega)) rfl rfl, List.forall_mem_cons.2 ⟨hS.val 16 65 _ (hall 16 (by show 16 < 20; omega)) rfl rfl, List.forall_mem_cons.2 ⟨e17, List.forall_mem_cons.2 ⟨hS.val 18 67 _ (hall 18 (by show 18 < 20; omega)) rfl rfl, fun p hp => by cases hp⟩⟩⟩⟩⟩⟩⟩⟩⟩⟩⟩⟩⟩⟩⟩⟩⟩⟩⟩)
      have e2 : ({ tmps := putAll (A0::.pointer (some ⟨b1, 0, none⟩)::A2::A3::.pointer (some ⟨b4, 0, none⟩)::.int .i64 (i : Int)::.int .i64 (j : Int)::A7::A8::A9::B0::B1::B2::B3::B4::B5::B6::B7::B8::B9::C0::C1::C2::C3::C4::C5::C6::C7::C8::C9::D0::D1::D2::D3::D4::D5::D6::D7::D8::D9::E0::E1::E2::E3::E4::E5::E6::E7::E8::E9::F0::F1::F2::F3::F4::F5::F6::F7::F8::F9::G0::G1::G2::G3::G4::G5::G6::G7::G8::G9::H0::H1::H2::H3::H4::H5::H6::H7::H8::H9::I0::I1::I2::I3::I4::I5::I6::I7::I8::I9::J0::J1::J2::J3::J4::J5::J6::J7::J8::J9::K0::K1::K2::K3::K4::K5::K6::K7::K8::K9::L0::L1::L2::L3::L4::L5::L6::L7::L8::L9::M0::M1::M2::M3::M4::M5::M6::M7::M8::M9::N0::N1::N2::N3::N4::N5::[]).toArray [(49, x0), (50, .pointer (some ⟨b4, 0, none⟩)), (51, .slice (some ⟨b, off, none⟩) l.length c), (52, .int .i64 (j : Int)), (53, .slice (some ⟨b, off, none⟩) j c), (54, x5), (55, .pointer (some ⟨b1, 0, none⟩)), (56, .slice (some ⟨vb, vo, none⟩) n vc), (57, .int .i64 (i : Int)), (58, .pointer (some ⟨vb, vo + i * 4, none⟩)), (59, seatV r x y kk), (60, x11), (61, x12), (62, .pointer (some ⟨b4, 0, none⟩)), (63, .slice (some ⟨b, off, none⟩) l.length c), (64, .int .i64 (j : Int)), (65, .slice (some A) (l.length - j) (c - j)), (66, .slice a13 (l.length + 1) c13), (67, .pointer (some ⟨b4, 0, none⟩))], defers := [] } : Act) = { tmps := (A0::.pointer (some ⟨b1, 0, none⟩)::A2::A3::.pointer (some ⟨b4, 0, none⟩)::.int .i64 (i : Int)::.int .i64 (j : Int)::A7::A8::A9::B0::B1::B2::B3::B4::B5::B6::B7::B8::B9::C0::C1::C2::C3::C4::C5::C6::C7::C8::C9::D0::D1::D2::D3::D4::D5::D6::D7::D8::D9::E0::E1::E2::E3::E4::E5::E6::E7::E8::x0::.pointer (some ⟨b4, 0, none⟩)::.slice (some ⟨b, off, none⟩) l.length c::.int .i64 (j : Int)::.slice (some ⟨b, off, none⟩) j c::x5::.pointer (some ⟨b1, 0, none⟩)::.slice (some ⟨vb, vo, none⟩) n vc::.int .i64 (i : Int)::.pointer (some ⟨vb, vo + i * 4, none⟩)::seatV r x y kk::x11::x12::.pointer (some ⟨b4, 0, none⟩)::.slice (some ⟨b, off, none⟩) l.length c::.int .i64 (j : Int)::.slice (some A) (l.length - j) (c - j)::.slice a13 (l.length + 1) c13::.pointer (some ⟨b4, 0, none⟩)::G8::G9::H0::H1::H2::H3::H4::H5::H6::H7::H8::H9::I0::I1::I2::I3::I4::I5::I6::I7::I8::I9::J0::J1::J2::J3::J4::J5::J6::J7::J8::J9::K0::K1::K2::K3::K4::K5::K6::K7::K8::K9::L0::L1::L2::L3::L4::L5::L6::L7::L8::L9::M0::M1::M2::M3::M4::M5::M6::M7::M8::M9::N0::N1::N2::N3::N4::N5::[]).toArray, defers := [] } := by kernel_rfl
      rw [hszd] at hown
      rw [he]
      show Q .normal { tmps := putAll (A0::.pointer (some ⟨b1, 0, none⟩)::A2::A3::.pointer (some ⟨b4, 0, none⟩)::.int .i64 (i : Int)::.int .i64 (j : Int)::A7::A8::A9::B0::B1::B2::B3::B4::B5::B6::B7::B8::B9::C0::C1::C2::C3::C4::C5::C6::C7::C8::C9::D0::D1::D2::D3::D4::D5::D6::D7::D8::D9::E0::E1::E2::E3::E4::E5::E6::E7::E8::E9::F0::F1::F2::F3::F4::F5::F6::F7::F8::F9::G0::G1::G2::G3::G4::G5::G6::G7::G8::G9::H0::H1::H2::H3::H4::H5::H6::H7::H8::H9::I0::I1::I2::I3::I4::I5::I6::I7::I8::I9::J0::J1::J2::J3::J4::J5::J6::J7::J8::J9::K0::K1::K2::K3::K4::K5::K6::K7::K8::K9::L0::L1::L2::L3::L4::L5::L6::L7::L8::L9::M0::M1::M2::M3::M4::M5::M6::M7::M8::M9::N0::N1::N2::N3::N4::N5::[]).toArray [(49, x0), (50, .pointer (some ⟨b4, 0, none⟩)), (51, .slice (some ⟨b, off, none⟩) l.length c), (52, .int .i64 (j : Int)), (53, .slice (some ⟨b, off, none⟩) j c), (54, x5), (55, .pointer (some ⟨b1, 0, none⟩)), (56, .slice (some ⟨vb, vo, none⟩) n vc), (57, .int .i64 (i : Int)), (58, .pointer (some ⟨vb, vo + i * 4, none⟩)), (59, seatV r x y kk), (60, x11), (61, x12), (62, .pointer (some ⟨b4, 0, none⟩)), (63, .slice (some ⟨b, off, none⟩) l.length c), (64, .int .i64 (j : Int)), (65, .slice (some A) (l.length - j) (c - j)), (66, .slice a13 (l.length + 1) c13), (67, .pointer (some ⟨b4, 0, none⟩))], defers := [] } _
      rw [e2]
      exact hQ w1 x0 x5 x11 x12 a13 c13 (hbd.trans (hszd ▸ hb)) hown
end Go.Proofs.YtgpkdjhllekihaaGreatDoor.Ven

namespace Go.Proofs.YtgpkdjhllekihaaGreatDoor.Ven
set_option linter.unusedVariables false
set_option maxRecDepth 100000
open Go.RowKit Go.Shelf

theorem Box.seatAt {w : World} {g : Nat} {r x y k : Int} (h : Box w g 45 #[.int .i64 r, .int .i64 x, .int .i64 y, .int .i64 k]) : SeatAt w g 0 r x y k := ⟨h.lt, h.cell 0 _ rfl, h.cell 1 _ rfl, h.cell 2 _ rfl, h.cell 3 _ rfl⟩
/-- The operations of the statement. -/
def ops12_14 : Array Oper := #[{ dst := some 87, op := Op.fieldAddr 33 (Operand.tmp 1) 0, type := 0, pos := "ref.go:231", after := #[], guard := none }, { dst := some 88, op := Op.load 30 (Operand.tmp 87), type := 30, pos := "ref.go:231", after := #[{ on := 0, ground := Ground.data }], guard := none }, { dst := some 89, op := Op.fieldAddr 33 (Operand.tmp 1) 3, type := 0, pos := "ref.go:231", after := #[], guard := none }, { dst := some 90, op := Op.load 22 (Operand.tmp 89), type := 22, pos := "ref.go:231", after := #[{ on := 2, ground := Ground.data }], guard := none }, { dst := some 91, op := Op.move (Operand.tmp 7), type := 3, pos := "ref.go:231", after := #[], guard := none }, { dst := some 92, op := Op.indexAddr 22 (Operand.tmp 90) (Operand.tmp 91), type := 0, pos := "ref.go:231", after := #[{ on := 3, ground := Ground.data }, { on := 4, ground := Ground.data }], guard := none }, { dst := some 93, op := Op.load 3 (Operand.tmp 92), type := 3, pos := "ref.go:231", after := #[{ on := 5, ground := Ground.data }], guard := none }, { dst := some 94, op := Op.indexAddr 30 (Operand.tmp 88) (Operand.tmp 93), type := 0, pos := "ref.go:231", after := #[{ on := 1, ground := Ground.data }, { on := 6, ground := Ground.data }], guard := none }, { dst := some 95, op := Op.load 45 (Operand.tmp 94), type := 45, pos := "ref.go:231", after := #[{ on := 7, ground := Ground.data }], guard := none }, { dst := some 8, op := Op.alloc 45, type := 0, pos := "ref.go:231", after := #[], guard := none }, { dst := none, op := Op.store 45 (Operand.tmp 8) (Operand.tmp 95), type := 0, pos := "ref.go:231", after := #[{ on := 9, ground := Ground.data }, { on := 8, ground := Ground.data }, { on := 0, ground := Ground.phase }, { on := 1, ground := Ground.phase }, { on := 2, ground := Ground.phase }, { on := 3, ground := Ground.phase }, { on := 4, ground := Ground.phase }, { on := 5, ground := Ground.phase }, { on := 6, ground := Ground.phase }, { on := 7, ground := Ground.phase }, { on := 8, ground := Ground.phase }, { on := 9, ground := Ground.phase }], guard := none }]
set_option maxRecDepth 100000 in
set_option maxHeartbeats 32000000 in
theorem region12_14 (Q : Exit → Act → World → Prop) (hQp : ∀ c a a' w, Q (.panic c) a w → Q (.panic c) a' w) (k kn kb ko kc n vb vo vc m : Nat) (hkn : k < kn) (hmn : m < n) (r x y kk : Int) (v1 v2 v4 : Value) (b1 : Nat) (W0 : World)
    (hV0 : Box W0 b1 33 #[.slice (some ⟨vb, vo, none⟩) n vc, v1, v2, .slice (some ⟨kb, ko, none⟩) kn kc, v4]) (hkl0 : kb < W0.heap.size) (hk0 : W0.cell? ⟨kb, ko + k, none⟩ = some (.int .i64 (m : Int))) (hT0 : SeatAt W0 vb (vo + m * 4) r x y kk)
    (A0 A2 A3 A4 A5 A6 A8 A9 B0 B1 B2 B3 B4 B5 B6 B7 B8 B9 C0 C1 C2 C3 C4 C5 C6 C7 C8 C9 D0 D1 D2 D3 D4 D5 D6 D7 D8 D9 E0 E1 E2 E3 E4 E5 E6 E7 E8 E9 F0 F1 F2 F3 F4 F5 F6 F7 F8 F9 G0 G1 G2 G3 G4 G5 G6 G7 G8 G9 H0 H1 H2 H3 H4 H5 H6 H7 H8 H9 I0 I1 I2 I3 I4 I5 I6 I7 I8 I9 J0 J1 J2 J3 J4 J5 J6 J7 J8 J9 K0 K1 K2 K3 K4 K5 K6 K7 K8 K9 L0 L1 L2 L3 L4 L5 L6 L7 L8 L9 M0 M1 M2 M3 M4 M5 M6 M7 M8 M9 N0 N1 N2 N3 N4 N5 : Value)
    (hQ : ∀ W' g8, Below W0.heap.size W0 W' → SeatAt W' g8 0 r x y kk → Q .normal { tmps := (A0::.pointer (some ⟨b1, 0, none⟩)::A2::A3::A4::A5::A6::.int .i64 (k : Int)::.pointer (some ⟨g8, 0, none⟩)::A9::B0::B1::B2::B3::B4::B5::B6::B7::B8::B9::C0::C1::C2::C3::C4::C5::C6::C7::C8::C9::D0::D1::D2::D3::D4::D5::D6::D7::D8::D9::E0::E1::E2::E3::E4::E5::E6::E7::E8::E9::F0::F1::F2::F3::F4::F5::F6::F7::F8::F9::G0::G1::G2::G3::G4::G5::G6::G7::G8::G9::H0::H1::H2::H3::H4::H5::H6::H7::H8::H9::I0::I1::I2::I3::I4::I5::I6::.pointer (some ⟨b1, 0, none⟩)::.slice (some ⟨vb, vo, none⟩) n vc::.pointer (some ⟨b1, 3, none⟩)::.slice (some ⟨kb, ko, none⟩) kn kc::.int .i64 (k : Int)::.pointer (some ⟨kb, ko + k, none⟩)::.int .i64 (m : Int)::.pointer (some ⟨vb, vo + m * 4, none⟩)::seatV r x y kk::J6::J7::J8::J9::K0::K1::K2::K3::K4::K5::K6::K7::K8::K9::L0::L1::L2::L3::L4::L5::L6::L7::L8::L9::M0::M1::M2::M3::M4::M5::M6::M7::M8::M9::N0::N1::N2::N3::N4::N5::[]).toArray, defers := [] } W') :
    (Code.region 14 #[{ dst := some 87, op := Op.fieldAddr 33 (Operand.tmp 1) 0, type := 0, pos := "ref.go:231", after := #[], guard := none }, { dst := some 88, op := Op.load 30 (Operand.tmp 87), type := 30, pos := "ref.go:231", after := #[{ on := 0, ground := Ground.data }], guard := none }, { dst := some 89, op := Op.fieldAddr 33 (Operand.tmp 1) 3, type := 0, pos := "ref.go:231", after := #[], guard := none }, { dst := some 90, op := Op.load 22 (Operand.tmp 89), type := 22, pos := "ref.go:231", after := #[{ on := 2, ground := Ground.data }], guard := none }, { dst := some 91, op := Op.move (Operand.tmp 7), type := 3, pos := "ref.go:231", after := #[], guard := none }, { dst := some 92, op := Op.indexAddr 22 (Operand.tmp 90) (Operand.tmp 91), type := 0, pos := "ref.go:231", after := #[{ on := 3, ground := Ground.data }, { on := 4, ground := Ground.data }], guard := none }, { dst := some 93, op := Op.load 3 (Operand.tmp 92), type := 3, pos := "ref.go:231", after := #[{ on := 5, ground := Ground.data }], guard := none }, { dst := some 94, op := Op.indexAddr 30 (Operand.tmp 88) (Operand.tmp 93), type := 0, pos := "ref.go:231", after := #[{ on := 1, ground := Ground.data }, { on := 6, ground := Ground.data }], guard := none }, { dst := some 95, op := Op.load 45 (Operand.tmp 94), type := 45, pos := "ref.go:231", after := #[{ on := 7, ground := Ground.data }], guard := none }, { dst := some 8, op := Op.alloc 45, type := 0, pos := "ref.go:231", after := #[], guard := none }, { dst := none, op := Op.store 45 (Operand.tmp 8) (Operand.tmp 95), type := 0, pos := "ref.go:231", after := #[{ on := 9, ground := Ground.data }, { on := 8, ground := Ground.data }, { on := 0, ground := Ground.phase }, { on := 1, ground := Ground.phase }, { on := 2, ground := Ground.phase }, { on := 3, ground := Ground.phase }, { on := 4, ground := Ground.phase }, { on := 5, ground := Ground.phase }, { on := 6, ground := Ground.phase }, { on := 7, ground := Ground.phase }, { on := 8, ground := Ground.phase }, { on := 9, ground := Ground.phase }], guard := none }] true).wp Tryz.prog Q { tmps := (A0::.pointer (some ⟨b1, 0, none⟩)::A2::A3::A4::A5::A6::.int .i64 (k : Int)::A8::A9::B0::B1::B2::B3::B4::B5::B6::B7::B8::B9::C0::C1::C2::C3::C4::C5::C6::C7::C8::C9::D0::D1::D2::D3::D4::D5::D6::D7::D8::D9::E0::E1::E2::E3::E4::E5::E6::E7::E8::E9::F0::F1::F2::F3::F4::F5::F6::F7::F8::F9::G0::G1::G2::G3::G4::G5::G6::G7::G8::G9::H0::H1::H2::H3::H4::H5::H6::H7::H8::H9::I0::I1::I2::I3::I4::I5::I6::I7::I8::I9::J0::J1::J2::J3::J4::J5::J6::J7::J8::J9::K0::K1::K2::K3::K4::K5::K6::K7::K8::K9::L0::L1::L2::L3::L4::L5::L6::L7::L8::L9::M0::M1::M2::M3::M4::M5::M6::M7::M8::M9::N0::N1::N2::N3::N4::N5::[]).toArray, defers := [] } W0 := by
  obtain ⟨W, hWd⟩ : ∃ W, W = W0.drew := ⟨_, rfl⟩
  have hszd : W.heap.size = W0.heap.size := by rw [hWd]; rfl
  have hbd : Below W0.heap.size W0 W := by rw [hWd]; exact (Below.refl _ W0).drew
  have hV := hV0.next hbd
  have hT := hT0.next hbd
  have hkl : kb < W.heap.size := by rw [hszd]; exact hkl0
  have hK0 : W.cell? ⟨kb, ko + k, none⟩ = some (.int .i64 (m : Int)) := by rw [hbd.cell (p := ⟨kb, ko + k, none⟩) hkl0]; exact hk0
  have hkz : (k : Int) < (kn : Int) := by omega
  have hmz : (m : Int) < (n : Int) := by omega
  have HQ : Hid (∀ W' g8, Below W.heap.size W W' → SeatAt W' g8 0 r x y kk → Q .normal { tmps := (A0::.pointer (some ⟨b1, 0, none⟩)::A2::A3::A4::A5::A6::.int .i64 (k : Int)::.pointer (some ⟨g8, 0, none⟩)::A9::B0::B1::B2::B3::B4::B5::B6::B7::B8::B9::C0::C1::C2::C3::C4::C5::C6::C7::C8::C9::D0::D1::D2::D3::D4::D5::D6::D7::D8::D9::E0::E1::E2::E3::E4::E5::E6::E7::E8::E9::F0::F1::F2::F3::F4::F5::F6::F7::F8::F9::G0::G1::G2::G3::G4::G5::G6::G7::G8::G9::H0::H1::H2::H3::H4::H5::H6::H7::H8::H9::I0::I1::I2::I3::I4::I5::I6::.pointer (some ⟨b1, 0, none⟩)::.slice (some ⟨vb, vo, none⟩) n vc::.pointer (some ⟨b1, 3, none⟩)::.slice (some ⟨kb, ko, none⟩) kn kc::.int .i64 (k : Int)::.pointer (some ⟨kb, ko + k, none⟩)::.int .i64 (m : Int)::.pointer (some ⟨vb, vo + m * 4, none⟩)::seatV r x y kk::J6::J7::J8::J9::K0::K1::K2::K3::K4::K5::K6::K7::K8::K9::L0::L1::L2::L3::L4::L5::L6::L7::L8::L9::M0::M1::M2::M3::M4::M5::M6::M7::M8::M9::N0::N1::N2::N3::N4::N5::[]).toArray, defers := [] } W') := by
    show ∀ W' g8, Below W.heap.size W W' → SeatAt W' g8 0 r x y kk → Q .normal { tmps := (A0::.pointer (some ⟨b1, 0, none⟩)::A2::A3::A4::A5::A6::.int .i64 (k : Int)::.pointer (some ⟨g8, 0, none⟩)::A9::B0::B1::B2::B3::B4::B5::B6::B7::B8::B9::C0::C1::C2::C3::C4::C5::C6::C7::C8::C9::D0::D1::D2::D3::D4::D5::D6::D7::D8::D9::E0::E1::E2::E3::E4::E5::E6::E7::E8::E9::F0::F1::F2::F3::F4::F5::F6::F7::F8::F9::G0::G1::G2::G3::G4::G5::G6::G7::G8::G9::H0::H1::H2::H3::H4::H5::H6::H7::H8::H9::I0::I1::I2::I3::I4::I5::I6::.pointer (some ⟨b1, 0, none⟩)::.slice (some ⟨vb, vo, none⟩) n vc::.pointer (some ⟨b1, 3, none⟩)::.slice (some ⟨kb, ko, none⟩) kn kc::.int .i64 (k : Int)::.pointer (some ⟨kb, ko + k, none⟩)::.int .i64 (m : Int)::.pointer (some ⟨vb, vo + m * 4, none⟩)::seatV r x y kk::J6::J7::J8::J9::K0::K1::K2::K3::K4::K5::K6::K7::K8::K9::L0::L1::L2::L3::L4::L5::L6::L7::L8::L9::M0::M1::M2::M3::M4::M5::M6::M7::M8::M9::N0::N1::N2::N3::N4::N5::[]).toArray, defers := [] } W'
    rw [hszd]
    exact fun W' g8 h1 h2 => hQ W' g8 (hbd.trans h1) h2
  have HQp : Hid (∀ c a a' w, Q (.panic c) a w → Q (.panic c) a' w) := hQp
  clear hQ hQp hV0 hT0 hk0 hkl0 hbd
  have s1_3_6_8_9 : ∀ W', Below W.heap.size W W' → ∀ g8, W.heap.size ≤ g8 → Box W' g8 45 #[.int .i64 0, .int .i64 0, .int .i64 0, .int .i64 0] → wpAny Tryz.prog .any ops12_14 Q 1 (true::true::true::true::true::true::true::true::true::true::false::[]).toArray { tmps := (A0::.pointer (some ⟨b1, 0, none⟩)::A2::A3::A4::A5::A6::.int .i64 (k : Int)::.pointer (some ⟨g8, 0, none⟩)::A9::B0::B1::B2::B3::B4::B5::B6::B7::B8::B9::C0::C1::C2::C3::C4::C5::C6::C7::C8::C9::D0::D1::D2::D3::D4::D5::D6::D7::D8::D9::E0::E1::E2::E3::E4::E5::E6::E7::E8::E9::F0::F1::F2::F3::F4::F5::F6::F7::F8::F9::G0::G1::G2::G3::G4::G5::G6::G7::G8::G9::H0::H1::H2::H3::H4::H5::H6::H7::H8::H9::I0::I1::I2::I3::I4::I5::I6::.pointer (some ⟨b1, 0, none⟩)::.slice (some ⟨vb, vo, none⟩) n vc::.pointer (some ⟨b1, 3, none⟩)::.slice (some ⟨kb, ko, none⟩) kn kc::.int .i64 (k : Int)::.pointer (some ⟨kb, ko + k, none⟩)::.int .i64 (m : Int)::.pointer (some ⟨vb, vo + m * 4, none⟩)::seatV r x y kk::J6::J7::J8::J9::K0::K1::K2::K3::K4::K5::K6::K7::K8::K9::L0::L1::L2::L3::L4::L5::L6::L7::L8::L9::M0::M1::M2::M3::M4::M5::M6::M7::M8::M9::N0::N1::N2::N3::N4::N5::[]).toArray, defers := [] } W' := by
    delta ops12_14
    intro W' hb g8 hge hx
    refine wpAny_ready (rs := [10]) (by kernel_rfl) (by simp) ?_
    refine AllReady.cons rfl (fun K hK => ?_) (AllReady.nil)
    ·
      have q0 := hx.cell 0 _ rfl
      have q1 := hx.cell 1 _ rfl
      have q2 := hx.cell 2 _ rfl
      have q3 := hx.cell 3 _ rfl
      have f0 := hx.frozen 0
      have f1 := hx.frozen 1
      have f2 := hx.frozen 2
      have f3 := hx.frozen 3
      have hxl := hx.lt
      go_simp
      refine hK _ _ ?_
      clear hK K
      refine wpAny_at (listed' := (true::true::true::true::true::true::true::true::true::true::true::[]).toArray) (a' := { tmps := (A0::.pointer (some ⟨b1, 0, none⟩)::A2::A3::A4::A5::A6::.int .i64 (k : Int)::.pointer (some ⟨g8, 0, none⟩)::A9::B0::B1::B2::B3::B4::B5::B6::B7::B8::B9::C0::C1::C2::C3::C4::C5::C6::C7::C8::C9::D0::D1::D2::D3::D4::D5::D6::D7::D8::D9::E0::E1::E2::E3::E4::E5::E6::E7::E8::E9::F0::F1::F2::F3::F4::F5::F6::F7::F8::F9::G0::G1::G2::G3::G4::G5::G6::G7::G8::G9::H0::H1::H2::H3::H4::H5::H6::H7::H8::H9::I0::I1::I2::I3::I4::I5::I6::.pointer (some ⟨b1, 0, none⟩)::.slice (some ⟨vb, vo, none⟩) n vc::.pointer (some ⟨b1, 3, none⟩)::.slice (some ⟨kb, ko, none⟩) kn kc::.int .i64 (k : Int)::.pointer (some ⟨kb, ko + k, none⟩)::.int .i64 (m : Int)::.pointer (some ⟨vb, vo + m * 4, none⟩)::seatV r x y kk::J6::J7::J8::J9::K0::K1::K2::K3::K4::K5::K6::K7::K8::K9::L0::L1::L2::L3::L4::L5::L6::L7::L8::L9::M0::M1::M2::M3::M4::M5::M6::M7::M8::M9::N0::N1::N2::N3::N4::N5::[]).toArray, defers := [] }) (by kernel_rfl) (by kernel_rfl) ?_
      refine wpAny_done (by kernel_rfl) ?_ _
      exact HQ.out _ g8 (Below.setCell (Below.setCell (Below.setCell (Below.setCell hb hge _) hge _) hge _) hge _) (Box.seatAt ((((hx.set 0 _).set 1 _).set 2 _).set 3 _))
  have s1_3_6_8 : ∀ W', Below W.heap.size W W' → wpAny Tryz.prog .any ops12_14 Q 2 (true::true::true::true::true::true::true::true::true::false::false::[]).toArray { tmps := (A0::.pointer (some ⟨b1, 0, none⟩)::A2::A3::A4::A5::A6::.int .i64 (k : Int)::A8::A9::B0::B1::B2::B3::B4::B5::B6::B7::B8::B9::C0::C1::C2::C3::C4::C5::C6::C7::C8::C9::D0::D1::D2::D3::D4::D5::D6::D7::D8::D9::E0::E1::E2::E3::E4::E5::E6::E7::E8::E9::F0::F1::F2::F3::F4::F5::F6::F7::F8::F9::G0::G1::G2::G3::G4::G5::G6::G7::G8::G9::H0::H1::H2::H3::H4::H5::H6::H7::H8::H9::I0::I1::I2::I3::I4::I5::I6::.pointer (some ⟨b1, 0, none⟩)::.slice (some ⟨vb, vo, none⟩) n vc::.pointer (some ⟨b1, 3, none⟩)::.slice (some ⟨kb, ko, none⟩) kn kc::.int .i64 (k : Int)::.pointer (some ⟨kb, ko + k, none⟩)::.int .i64 (m : Int)::.pointer (some ⟨vb, vo + m * 4, none⟩)::seatV r x y kk::J6::J7::J8::J9::K0::K1::K2::K3::K4::K5::K6::K7::K8::K9::L0::L1::L2::L3::L4::L5::L6::L7::L8::L9::M0::M1::M2::M3::M4::M5::M6::M7::M8::M9::N0::N1::N2::N3::N4::N5::[]).toArray, defers := [] } W' := by
    delta ops12_14
    intro W' hb
    refine wpAny_ready (rs := [9]) (by kernel_rfl) (by simp) ?_
    refine AllReady.cons rfl (fun K hK => ?_) (AllReady.nil)
    ·
      go_simp
      refine hK _ _ ?_
      clear hK K
      refine wpAny_at (listed' := (true::true::true::true::true::true::true::true::true::true::false::[]).toArray) (a' := { tmps := (A0::.pointer (some ⟨b1, 0, none⟩)::A2::A3::A4::A5::A6::.int .i64 (k : Int)::.pointer (some ⟨W'.heap.size, 0, none⟩)::A9::B0::B1::B2::B3::B4::B5::B6::B7::B8::B9::C0::C1::C2::C3::C4::C5::C6::C7::C8::C9::D0::D1::D2::D3::D4::D5::D6::D7::D8::D9::E0::E1::E2::E3::E4::E5::E6::E7::E8::E9::F0::F1::F2::F3::F4::F5::F6::F7::F8::F9::G0::G1::G2::G3::G4::G5::G6::G7::G8::G9::H0::H1::H2::H3::H4::H5::H6::H7::H8::H9::I0::I1::I2::I3::I4::I5::I6::.pointer (some ⟨b1, 0, none⟩)::.slice (some ⟨vb, vo, none⟩) n vc::.pointer (some ⟨b1, 3, none⟩)::.slice (some ⟨kb, ko, none⟩) kn kc::.int .i64 (k : Int)::.pointer (some ⟨kb, ko + k, none⟩)::.int .i64 (m : Int)::.pointer (some ⟨vb, vo + m * 4, none⟩)::seatV r x y kk::J6::J7::J8::J9::K0::K1::K2::K3::K4::K5::K6::K7::K8::K9::L0::L1::L2::L3::L4::L5::L6::L7::L8::L9::M0::M1::M2::M3::M4::M5::M6::M7::M8::M9::N0::N1::N2::N3::N4::N5::[]).toArray, defers := [] }) (by kernel_rfl) (by kernel_rfl) ?_
      exact s1_3_6_8_9 _ (hb.alloc hb.size _) _ hb.size (Box.fresh W' 45 #[.int .i64 0, .int .i64 0, .int .i64 0, .int .i64 0])
  have s1_3_6_9 : ∀ W', Below W.heap.size W W' → ∀ g8, W.heap.size ≤ g8 → Box W' g8 45 #[.int .i64 0, .int .i64 0, .int .i64 0, .int .i64 0] → wpAny Tryz.prog .any ops12_14 Q 2 (true::true::true::true::true::true::true::true::false::true::false::[]).toArray { tmps := (A0::.pointer (some ⟨b1, 0, none⟩)::A2::A3::A4::A5::A6::.int .i64 (k : Int)::.pointer (some ⟨g8, 0, none⟩)::A9::B0::B1::B2::B3::B4::B5::B6::B7::B8::B9::C0::C1::C2::C3::C4::C5::C6::C7::C8::C9::D0::D1::D2::D3::D4::D5::D6::D7::D8::D9::E0::E1::E2::E3::E4::E5::E6::E7::E8::E9::F0::F1::F2::F3::F4::F5::F6::F7::F8::F9::G0::G1::G2::G3::G4::G5::G6::G7::G8::G9::H0::H1::H2::H3::H4::H5::H6::H7::H8::H9::I0::I1::I2::I3::I4::I5::I6::.pointer (some ⟨b1, 0, none⟩)::.slice (some ⟨vb, vo, none⟩) n vc::.pointer (some ⟨b1, 3, none⟩)::.slice (some ⟨kb, ko, none⟩) kn kc::.int .i64 (k : Int)::.pointer (some ⟨kb, ko + k, none⟩)::.int .i64 (m : Int)::.pointer (some ⟨vb, vo + m * 4, none⟩)::J5::J6::J7::J8::J9::K0::K1::K2::K3::K4::K5::K6::K7::K8::K9::L0::L1::L2::L3::L4::L5::L6::L7::L8::L9::M0::M1::M2::M3::M4::M5::M6::M7::M8::M9::N0::N1::N2::N3::N4::N5::[]).toArray, defers := [] } W' := by
    delta ops12_14
    intro W' hb g8 hge hx
    refine wpAny_ready (rs := [8]) (by kernel_rfl) (by simp) ?_
    refine AllReady.cons rfl (fun K hK => ?_) (AllReady.nil)
    ·
      obtain ⟨_, q0, q1, q2, q3⟩ := hT.next hb
      go_simp
      refine hK _ _ ?_
      clear hK K
      refine wpAny_at (listed' := (true::true::true::true::true::true::true::true::true::true::false::[]).toArray) (a' := { tmps := (A0::.pointer (some ⟨b1, 0, none⟩)::A2::A3::A4::A5::A6::.int .i64 (k : Int)::.pointer (some ⟨g8, 0, none⟩)::A9::B0::B1::B2::B3::B4::B5::B6::B7::B8::B9::C0::C1::C2::C3::C4::C5::C6::C7::C8::C9::D0::D1::D2::D3::D4::D5::D6::D7::D8::D9::E0::E1::E2::E3::E4::E5::E6::E7::E8::E9::F0::F1::F2::F3::F4::F5::F6::F7::F8::F9::G0::G1::G2::G3::G4::G5::G6::G7::G8::G9::H0::H1::H2::H3::H4::H5::H6::H7::H8::H9::I0::I1::I2::I3::I4::I5::I6::.pointer (some ⟨b1, 0, none⟩)::.slice (some ⟨vb, vo, none⟩) n vc::.pointer (some ⟨b1, 3, none⟩)::.slice (some ⟨kb, ko, none⟩) kn kc::.int .i64 (k : Int)::.pointer (some ⟨kb, ko + k, none⟩)::.int .i64 (m : Int)::.pointer (some ⟨vb, vo + m * 4, none⟩)::seatV r x y kk::J6::J7::J8::J9::K0::K1::K2::K3::K4::K5::K6::K7::K8::K9::L0::L1::L2::L3::L4::L5::L6::L7::L8::L9::M0::M1::M2::M3::M4::M5::M6::M7::M8::M9::N0::N1::N2::N3::N4::N5::[]).toArray, defers := [] }) (by kernel_rfl) (by kernel_rfl) ?_
      exact s1_3_6_8_9 W' hb g8 hge hx
  have s1_3_6 : ∀ W', Below W.heap.size W W' → wpAny Tryz.prog .any ops12_14 Q 3 (true::true::true::true::true::true::true::true::false::false::false::[]).toArray { tmps := (A0::.pointer (some ⟨b1, 0, none⟩)::A2::A3::A4::A5::A6::.int .i64 (k : Int)::A8::A9::B0::B1::B2::B3::B4::B5::B6::B7::B8::B9::C0::C1::C2::C3::C4::C5::C6::C7::C8::C9::D0::D1::D2::D3::D4::D5::D6::D7::D8::D9::E0::E1::E2::E3::E4::E5::E6::E7::E8::E9::F0::F1::F2::F3::F4::F5::F6::F7::F8::F9::G0::G1::G2::G3::G4::G5::G6::G7::G8::G9::H0::H1::H2::H3::H4::H5::H6::H7::H8::H9::I0::I1::I2::I3::I4::I5::I6::.pointer (some ⟨b1, 0, none⟩)::.slice (some ⟨vb, vo, none⟩) n vc::.pointer (some ⟨b1, 3, none⟩)::.slice (some ⟨kb, ko, none⟩) kn kc::.int .i64 (k : Int)::.pointer (some ⟨kb, ko + k, none⟩)::.int .i64 (m : Int)::.pointer (some ⟨vb, vo + m * 4, none⟩)::J5::J6::J7::J8::J9::K0::K1::K2::K3::K4::K5::K6::K7::K8::K9::L0::L1::L2::L3::L4::L5::L6::L7::L8::L9::M0::M1::M2::M3::M4::M5::M6::M7::M8::M9::N0::N1::N2::N3::N4::N5::[]).toArray, defers := [] } W' := by
    delta ops12_14
    intro W' hb
    refine wpAny_ready (rs := [8, 9]) (by kernel_rfl) (by simp) ?_
    refine AllReady.cons rfl (fun K hK => ?_) (AllReady.cons rfl (fun K hK => ?_) (AllReady.nil))
    ·
      obtain ⟨_, q0, q1, q2, q3⟩ := hT.next hb
      go_simp
      refine hK _ _ ?_
      clear hK K
      refine wpAny_at (listed' := (true::true::true::true::true::true::true::true::true::false::false::[]).toArray) (a' := { tmps := (A0::.pointer (some ⟨b1, 0, none⟩)::A2::A3::A4::A5::A6::.int .i64 (k : Int)::A8::A9::B0::B1::B2::B3::B4::B5::B6::B7::B8::B9::C0::C1::C2::C3::C4::C5::C6::C7::C8::C9::D0::D1::D2::D3::D4::D5::D6::D7::D8::D9::E0::E1::E2::E3::E4::E5::E6::E7::E8::E9::F0::F1::F2::F3::F4::F5::F6::F7::F8::F9::G0::G1::G2::G3::G4::G5::G6::G7::G8::G9::H0::H1::H2::H3::H4::H5::H6::H7::H8::H9::I0::I1::I2::I3::I4::I5::I6::.pointer (some ⟨b1, 0, none⟩)::.slice (some ⟨vb, vo, none⟩) n vc::.pointer (some ⟨b1, 3, none⟩)::.slice (some ⟨kb, ko, none⟩) kn kc::.int .i64 (k : Int)::.pointer (some ⟨kb, ko + k, none⟩)::.int .i64 (m : Int)::.pointer (some ⟨vb, vo + m * 4, none⟩)::seatV r x y kk::J6::J7::J8::J9::K0::K1::K2::K3::K4::K5::K6::K7::K8::K9::L0::L1::L2::L3::L4::L5::L6::L7::L8::L9::M0::M1::M2::M3::M4::M5::M6::M7::M8::M9::N0::N1::N2::N3::N4::N5::[]).toArray, defers := [] }) (by kernel_rfl) (by kernel_rfl) ?_
      exact s1_3_6_8 W' hb
    ·
      go_simp
      refine hK _ _ ?_
      clear hK K
      refine wpAny_at (listed' := (true::true::true::true::true::true::true::true::false::true::false::[]).toArray) (a' := { tmps := (A0::.pointer (some ⟨b1, 0, none⟩)::A2::A3::A4::A5::A6::.int .i64 (k : Int)::.pointer (some ⟨W'.heap.size, 0, none⟩)::A9::B0::B1::B2::B3::B4::B5::B6::B7::B8::B9::C0::C1::C2::C3::C4::C5::C6::C7::C8::C9::D0::D1::D2::D3::D4::D5::D6::D7::D8::D9::E0::E1::E2::E3::E4::E5::E6::E7::E8::E9::F0::F1::F2::F3::F4::F5::F6::F7::F8::F9::G0::G1::G2::G3::G4::G5::G6::G7::G8::G9::H0::H1::H2::H3::H4::H5::H6::H7::H8::H9::I0::I1::I2::I3::I4::I5::I6::.pointer (some ⟨b1, 0, none⟩)::.slice (some ⟨vb, vo, none⟩) n vc::.pointer (some ⟨b1, 3, none⟩)::.slice (some ⟨kb, ko, none⟩) kn kc::.int .i64 (k : Int)::.pointer (some ⟨kb, ko + k, none⟩)::.int .i64 (m : Int)::.pointer (some ⟨vb, vo + m * 4, none⟩)::J5::J6::J7::J8::J9::K0::K1::K2::K3::K4::K5::K6::K7::K8::K9::L0::L1::L2::L3::L4::L5::L6::L7::L8::L9::M0::M1::M2::M3::M4::M5::M6::M7::M8::M9::N0::N1::N2::N3::N4::N5::[]).toArray, defers := [] }) (by kernel_rfl) (by kernel_rfl) ?_
      exact s1_3_6_9 _ (hb.alloc hb.size _) _ hb.size (Box.fresh W' 45 #[.int .i64 0, .int .i64 0, .int .i64 0, .int .i64 0])
  have s1_3_9 : ∀ W', Below W.heap.size W W' → ∀ g8, W.heap.size ≤ g8 → Box W' g8 45 #[.int .i64 0, .int .i64 0, .int .i64 0, .int .i64 0] → wpAny Tryz.prog .any ops12_14 Q 4 (true::true::true::true::true::true::false::false::false::true::false::[]).toArray { tmps := (A0::.pointer (some ⟨b1, 0, none⟩)::A2::A3::A4::A5::A6::.int .i64 (k : Int)::.pointer (some ⟨g8, 0, none⟩)::A9::B0::B1::B2::B3::B4::B5::B6::B7::B8::B9::C0::C1::C2::C3::C4::C5::C6::C7::C8::C9::D0::D1::D2::D3::D4::D5::D6::D7::D8::D9::E0::E1::E2::E3::E4::E5::E6::E7::E8::E9::F0::F1::F2::F3::F4::F5::F6::F7::F8::F9::G0::G1::G2::G3::G4::G5::G6::G7::G8::G9::H0::H1::H2::H3::H4::H5::H6::H7::H8::H9::I0::I1::I2::I3::I4::I5::I6::.pointer (some ⟨b1, 0, none⟩)::.slice (some ⟨vb, vo, none⟩) n vc::.pointer (some ⟨b1, 3, none⟩)::.slice (some ⟨kb, ko, none⟩) kn kc::.int .i64 (k : Int)::.pointer (some ⟨kb, ko + k, none⟩)::J3::J4::J5::J6::J7::J8::J9::K0::K1::K2::K3::K4::K5::K6::K7::K8::K9::L0::L1::L2::L3::L4::L5::L6::L7::L8::L9::M0::M1::M2::M3::M4::M5::M6::M7::M8::M9::N0::N1::N2::N3::N4::N5::[]).toArray, defers := [] } W' := by
    delta ops12_14
    intro W' hb g8 hge hx
    refine wpAny_ready (rs := [6]) (by kernel_rfl) (by simp) ?_
    refine AllReady.cons rfl (fun K hK => ?_) (AllReady.nil)
    ·
      have q0 : W'.cell? ⟨kb, ko + k, none⟩ = some (.int .i64 (m : Int)) := by rw [hb.cell (p := ⟨kb, ko + k, none⟩) hkl]; exact hK0
      go_simp
      refine hK _ _ ?_
      clear hK K
      refine wpAny_at (listed' := (true::true::true::true::true::true::true::false::false::true::false::[]).toArray) (a' := { tmps := (A0::.pointer (some ⟨b1, 0, none⟩)::A2::A3::A4::A5::A6::.int .i64 (k : Int)::.pointer (some ⟨g8, 0, none⟩)::A9::B0::B1::B2::B3::B4::B5::B6::B7::B8::B9::C0::C1::C2::C3::C4::C5::C6::C7::C8::C9::D0::D1::D2::D3::D4::D5::D6::D7::D8::D9::E0::E1::E2::E3::E4::E5::E6::E7::E8::E9::F0::F1::F2::F3::F4::F5::F6::F7::F8::F9::G0::G1::G2::G3::G4::G5::G6::G7::G8::G9::H0::H1::H2::H3::H4::H5::H6::H7::H8::H9::I0::I1::I2::I3::I4::I5::I6::.pointer (some ⟨b1, 0, none⟩)::.slice (some ⟨vb, vo, none⟩) n vc::.pointer (some ⟨b1, 3, none⟩)::.slice (some ⟨kb, ko, none⟩) kn kc::.int .i64 (k : Int)::.pointer (some ⟨kb, ko + k, none⟩)::.int .i64 (m : Int)::J4::J5::J6::J7::J8::J9::K0::K1::K2::K3::K4::K5::K6::K7::K8::K9::L0::L1::L2::L3::L4::L5::L6::L7::L8::L9::M0::M1::M2::M3::M4::M5::M6::M7::M8::M9::N0::N1::N2::N3::N4::N5::[]).toArray, defers := [] }) (by kernel_rfl) (by kernel_rfl) ?_
      refine wpAny_take (i := 7) (v := .pointer (some ⟨vb, vo + m * 4, none⟩)) rfl (by kernel_rfl) (by kernel_rfl) (by kernel_rfl) (fun _ _ _ h => HQp.out _ _ _ _ h) (Or.inl ⟨by rfl, by intro w; go_simp⟩) ?_
      refine wpAny_at (listed' := (true::true::true::true::true::true::true::true::false::true::false::[]).toArray) (a' := { tmps := (A0::.pointer (some ⟨b1, 0, none⟩)::A2::A3::A4::A5::A6::.int .i64 (k : Int)::.pointer (some ⟨g8, 0, none⟩)::A9::B0::B1::B2::B3::B4::B5::B6::B7::B8::B9::C0::C1::C2::C3::C4::C5::C6::C7::C8::C9::D0::D1::D2::D3::D4::D5::D6::D7::D8::D9::E0::E1::E2::E3::E4::E5::E6::E7::E8::E9::F0::F1::F2::F3::F4::F5::F6::F7::F8::F9::G0::G1::G2::G3::G4::G5::G6::G7::G8::G9::H0::H1::H2::H3::H4::H5::H6::H7::H8::H9::I0::I1::I2::I3::I4::I5::I6::.pointer (some ⟨b1, 0, none⟩)::.slice (some ⟨vb, vo, none⟩) n vc::.pointer (some ⟨b1, 3, none⟩)::.slice (some ⟨kb, ko, none⟩) kn kc::.int .i64 (k : Int)::.pointer (some ⟨kb, ko + k, none⟩)::.int .i64 (m : Int)::.pointer (some ⟨vb, vo + m * 4, none⟩)::J5::J6::J7::J8::J9::K0::K1::K2::K3::K4::K5::K6::K7::K8::K9::L0::L1::L2::L3::L4::L5::L6::L7::L8::L9::M0::M1::M2::M3::M4::M5::M6::M7::M8::M9::N0::N1::N2::N3::N4::N5::[]).toArray, defers := [] }) (by kernel_rfl) (by kernel_rfl) ?_
      exact s1_3_6_9 W' hb g8 hge hx
  have s3_6_9 : ∀ W', Below W.heap.size W W' → ∀ g8, W.heap.size ≤ g8 → Box W' g8 45 #[.int .i64 0, .int .i64 0, .int .i64 0, .int .i64 0] → wpAny Tryz.prog .any ops12_14 Q 4 (true::false::true::true::true::true::true::false::false::true::false::[]).toArray { tmps := (A0::.pointer (some ⟨b1, 0, none⟩)::A2::A3::A4::A5::A6::.int .i64 (k : Int)::.pointer (some ⟨g8, 0, none⟩)::A9::B0::B1::B2::B3::B4::B5::B6::B7::B8::B9::C0::C1::C2::C3::C4::C5::C6::C7::C8::C9::D0::D1::D2::D3::D4::D5::D6::D7::D8::D9::E0::E1::E2::E3::E4::E5::E6::E7::E8::E9::F0::F1::F2::F3::F4::F5::F6::F7::F8::F9::G0::G1::G2::G3::G4::G5::G6::G7::G8::G9::H0::H1::H2::H3::H4::H5::H6::H7::H8::H9::I0::I1::I2::I3::I4::I5::I6::.pointer (some ⟨b1, 0, none⟩)::I8::.pointer (some ⟨b1, 3, none⟩)::.slice (some ⟨kb, ko, none⟩) kn kc::.int .i64 (k : Int)::.pointer (some ⟨kb, ko + k, none⟩)::.int .i64 (m : Int)::J4::J5::J6::J7::J8::J9::K0::K1::K2::K3::K4::K5::K6::K7::K8::K9::L0::L1::L2::L3::L4::L5::L6::L7::L8::L9::M0::M1::M2::M3::M4::M5::M6::M7::M8::M9::N0::N1::N2::N3::N4::N5::[]).toArray, defers := [] } W' := by
    delta ops12_14
    intro W' hb g8 hge hx
    refine wpAny_ready (rs := [1]) (by kernel_rfl) (by simp) ?_
    refine AllReady.cons rfl (fun K hK => ?_) (AllReady.nil)
    ·
      have q0 := (hV.next hb).cell 0 _ rfl
      go_simp
      refine hK _ _ ?_
      clear hK K
      refine wpAny_at (listed' := (true::true::true::true::true::true::true::false::false::true::false::[]).toArray) (a' := { tmps := (A0::.pointer (some ⟨b1, 0, none⟩)::A2::A3::A4::A5::A6::.int .i64 (k : Int)::.pointer (some ⟨g8, 0, none⟩)::A9::B0::B1::B2::B3::B4::B5::B6::B7::B8::B9::C0::C1::C2::C3::C4::C5::C6::C7::C8::C9::D0::D1::D2::D3::D4::D5::D6::D7::D8::D9::E0::E1::E2::E3::E4::E5::E6::E7::E8::E9::F0::F1::F2::F3::F4::F5::F6::F7::F8::F9::G0::G1::G2::G3::G4::G5::G6::G7::G8::G9::H0::H1::H2::H3::H4::H5::H6::H7::H8::H9::I0::I1::I2::I3::I4::I5::I6::.pointer (some ⟨b1, 0, none⟩)::.slice (some ⟨vb, vo, none⟩) n vc::.pointer (some ⟨b1, 3, none⟩)::.slice (some ⟨kb, ko, none⟩) kn kc::.int .i64 (k : Int)::.pointer (some ⟨kb, ko + k, none⟩)::.int .i64 (m : Int)::J4::J5::J6::J7::J8::J9::K0::K1::K2::K3::K4::K5::K6::K7::K8::K9::L0::L1::L2::L3::L4::L5::L6::L7::L8::L9::M0::M1::M2::M3::M4::M5::M6::M7::M8::M9::N0::N1::N2::N3::N4::N5::[]).toArray, defers := [] }) (by kernel_rfl) (by kernel_rfl) ?_
      refine wpAny_take (i := 7) (v := .pointer (some ⟨vb, vo + m * 4, none⟩)) rfl (by kernel_rfl) (by kernel_rfl) (by kernel_rfl) (fun _ _ _ h => HQp.out _ _ _ _ h) (Or.inl ⟨by rfl, by intro w; go_simp⟩) ?_
      refine wpAny_at (listed' := (true::true::true::true::true::true::true::true::false::true::false::[]).toArray) (a' := { tmps := (A0::.pointer (some ⟨b1, 0, none⟩)::A2::A3::A4::A5::A6::.int .i64 (k : Int)::.pointer (some ⟨g8, 0, none⟩)::A9::B0::B1::B2::B3::B4::B5::B6::B7::B8::B9::C0::C1::C2::C3::C4::C5::C6::C7::C8::C9::D0::D1::D2::D3::D4::D5::D6::D7::D8::D9::E0::E1::E2::E3::E4::E5::E6::E7::E8::E9::F0::F1::F2::F3::F4::F5::F6::F7::F8::F9::G0::G1::G2::G3::G4::G5::G6::G7::G8::G9::H0::H1::H2::H3::H4::H5::H6::H7::H8::H9::I0::I1::I2::I3::I4::I5::I6::.pointer (some ⟨b1, 0, none⟩)::.slice (some ⟨vb, vo, none⟩) n vc::.pointer (some ⟨b1, 3, none⟩)::.slice (some ⟨kb, ko, none⟩) kn kc::.int .i64 (k : Int)::.pointer (some ⟨kb, ko + k, none⟩)::.int .i64 (m : Int)::.pointer (some ⟨vb, vo + m * 4, none⟩)::J5::J6::J7::J8::J9::K0::K1::K2::K3::K4::K5::K6::K7::K8::K9::L0::L1::L2::L3::L4::L5::L6::L7::L8::L9::M0::M1::M2::M3::M4::M5::M6::M7::M8::M9::N0::N1::N2::N3::N4::N5::[]).toArray, defers := [] }) (by kernel_rfl) (by kernel_rfl) ?_
      exact s1_3_6_9 W' hb g8 hge hx
  have s1_3 : ∀ W', Below W.heap.size W W' → wpAny Tryz.prog .any ops12_14 Q 5 (true::true::true::true::true::true::false::false::false::false::false::[]).toArray { tmps := (A0::.pointer (some ⟨b1, 0, none⟩)::A2::A3::A4::A5::A6::.int .i64 (k : Int)::A8::A9::B0::B1::B2::B3::B4::B5::B6::B7::B8::B9::C0::C1::C2::C3::C4::C5::C6::C7::C8::C9::D0::D1::D2::D3::D4::D5::D6::D7::D8::D9::E0::E1::E2::E3::E4::E5::E6::E7::E8::E9::F0::F1::F2::F3::F4::F5::F6::F7::F8::F9::G0::G1::G2::G3::G4::G5::G6::G7::G8::G9::H0::H1::H2::H3::H4::H5::H6::H7::H8::H9::I0::I1::I2::I3::I4::I5::I6::.pointer (some ⟨b1, 0, none⟩)::.slice (some ⟨vb, vo, none⟩) n vc::.pointer (some ⟨b1, 3, none⟩)::.slice (some ⟨kb, ko, none⟩) kn kc::.int .i64 (k : Int)::.pointer (some ⟨kb, ko + k, none⟩)::J3::J4::J5::J6::J7::J8::J9::K0::K1::K2::K3::K4::K5::K6::K7::K8::K9::L0::L1::L2::L3::L4::L5::L6::L7::L8::L9::M0::M1::M2::M3::M4::M5::M6::M7::M8::M9::N0::N1::N2::N3::N4::N5::[]).toArray, defers := [] } W' := by
    delta ops12_14
    intro W' hb
    refine wpAny_ready (rs := [6, 9]) (by kernel_rfl) (by simp) ?_
    refine AllReady.cons rfl (fun K hK => ?_) (AllReady.cons rfl (fun K hK => ?_) (AllReady.nil))
    ·
      have q0 : W'.cell? ⟨kb, ko + k, none⟩ = some (.int .i64 (m : Int)) := by rw [hb.cell (p := ⟨kb, ko + k, none⟩) hkl]; exact hK0
      go_simp
      refine hK _ _ ?_
      clear hK K
      refine wpAny_at (listed' := (true::true::true::true::true::true::true::false::false::false::false::[]).toArray) (a' := { tmps := (A0::.pointer (some ⟨b1, 0, none⟩)::A2::A3::A4::A5::A6::.int .i64 (k : Int)::A8::A9::B0::B1::B2::B3::B4::B5::B6::B7::B8::B9::C0::C1::C2::C3::C4::C5::C6::C7::C8::C9::D0::D1::D2::D3::D4::D5::D6::D7::D8::D9::E0::E1::E2::E3::E4::E5::E6::E7::E8::E9::F0::F1::F2::F3::F4::F5::F6::F7::F8::F9::G0::G1::G2::G3::G4::G5::G6::G7::G8::G9::H0::H1::H2::H3::H4::H5::H6::H7::H8::H9::I0::I1::I2::I3::I4::I5::I6::.pointer (some ⟨b1, 0, none⟩)::.slice (some ⟨vb, vo, none⟩) n vc::.pointer (some ⟨b1, 3, none⟩)::.slice (some ⟨kb, ko, none⟩) kn kc::.int .i64 (k : Int)::.pointer (some ⟨kb, ko + k, none⟩)::.int .i64 (m : Int)::J4::J5::J6::J7::J8::J9::K0::K1::K2::K3::K4::K5::K6::K7::K8::K9::L0::L1::L2::L3::L4::L5::L6::L7::L8::L9::M0::M1::M2::M3::M4::M5::M6::M7::M8::M9::N0::N1::N2::N3::N4::N5::[]).toArray, defers := [] }) (by kernel_rfl) (by kernel_rfl) ?_
      refine wpAny_take (i := 7) (v := .pointer (some ⟨vb, vo + m * 4, none⟩)) rfl (by kernel_rfl) (by kernel_rfl) (by kernel_rfl) (fun _ _ _ h => HQp.out _ _ _ _ h) (Or.inl ⟨by rfl, by intro w; go_simp⟩) ?_
      refine wpAny_at (listed' := (true::true::true::true::true::true::true::true::false::false::false::[]).toArray) (a' := { tmps := (A0::.pointer (some ⟨b1, 0, none⟩)::A2::A3::A4::A5::A6::.int .i64 (k : Int)::A8::A9::B0::B1::B2::B3::B4::B5::B6::B7::B8::B9::C0::C1::C2::C3::C4::C5::C6::C7::C8::C9::D0::D1::D2::D3::D4::D5::D6::D7::D8::D9::E0::E1::E2::E3::E4::E5::E6::E7::E8::E9::F0::F1::F2::F3::F4::F5::F6::F7::F8::F9::G0::G1::G2::G3::G4::G5::G6::G7::G8::G9::H0::H1::H2::H3::H4::H5::H6::H7::H8::H9::I0::I1::I2::I3::I4::I5::I6::.pointer (some ⟨b1, 0, none⟩)::.slice (some ⟨vb, vo, none⟩) n vc::.pointer (some ⟨b1, 3, none⟩)::.slice (some ⟨kb, ko, none⟩) kn kc::.int .i64 (k : Int)::.pointer (some ⟨kb, ko + k, none⟩)::.int .i64 (m : Int)::.pointer (some ⟨vb, vo + m * 4, none⟩)::J5::J6::J7::J8::J9::K0::K1::K2::K3::K4::K5::K6::K7::K8::K9::L0::L1::L2::L3::L4::L5::L6::L7::L8::L9::M0::M1::M2::M3::M4::M5::M6::M7::M8::M9::N0::N1::N2::N3::N4::N5::[]).toArray, defers := [] }) (by kernel_rfl) (by kernel_rfl) ?_
      exact s1_3_6 W' hb
    ·
      go_simp
      refine hK _ _ ?_
      clear hK K
      refine wpAny_at (listed' := (true::true::true::true::true::true::false::false::false::true::false::[]).toArray) (a' := { tmps := (A0::.pointer (some ⟨b1, 0, none⟩)::A2::A3::A4::A5::A6::.int .i64 (k : Int)::.pointer (some ⟨W'.heap.size, 0, none⟩)::A9::B0::B1::B2::B3::B4::B5::B6::B7::B8::B9::C0::C1::C2::C3::C4::C5::C6::C7::C8::C9::D0::D1::D2::D3::D4::D5::D6::D7::D8::D9::E0::E1::E2::E3::E4::E5::E6::E7::E8::E9::F0::F1::F2::F3::F4::F5::F6::F7::F8::F9::G0::G1::G2::G3::G4::G5::G6::G7::G8::G9::H0::H1::H2::H3::H4::H5::H6::H7::H8::H9::I0::I1::I2::I3::I4::I5::I6::.pointer (some ⟨b1, 0, none⟩)::.slice (some ⟨vb, vo, none⟩) n vc::.pointer (some ⟨b1, 3, none⟩)::.slice (some ⟨kb, ko, none⟩) kn kc::.int .i64 (k : Int)::.pointer (some ⟨kb, ko + k, none⟩)::J3::J4::J5::J6::J7::J8::J9::K0::K1::K2::K3::K4::K5::K6::K7::K8::K9::L0::L1::L2::L3::L4::L5::L6::L7::L8::L9::M0::M1::M2::M3::M4::M5::M6::M7::M8::M9::N0::N1::N2::N3::N4::N5::[]).toArray, defers := [] }) (by kernel_rfl) (by kernel_rfl) ?_
      exact s1_3_9 _ (hb.alloc hb.size _) _ hb.size (Box.fresh W' 45 #[.int .i64 0, .int .i64 0, .int .i64 0, .int .i64 0])
  have s3_6 : ∀ W', Below W.heap.size W W' → wpAny Tryz.prog .any ops12_14 Q 5 (true::false::true::true::true::true::true::false::false::false::false::[]).toArray { tmps := (A0::.pointer (some ⟨b1, 0, none⟩)::A2::A3::A4::A5::A6::.int .i64 (k : Int)::A8::A9::B0::B1::B2::B3::B4::B5::B6::B7::B8::B9::C0::C1::C2::C3::C4::C5::C6::C7::C8::C9::D0::D1::D2::D3::D4::D5::D6::D7::D8::D9::E0::E1::E2::E3::E4::E5::E6::E7::E8::E9::F0::F1::F2::F3::F4::F5::F6::F7::F8::F9::G0::G1::G2::G3::G4::G5::G6::G7::G8::G9::H0::H1::H2::H3::H4::H5::H6::H7::H8::H9::I0::I1::I2::I3::I4::I5::I6::.pointer (some ⟨b1, 0, none⟩)::I8::.pointer (some ⟨b1, 3, none⟩)::.slice (some ⟨kb, ko, none⟩) kn kc::.int .i64 (k : Int)::.pointer (some ⟨kb, ko + k, none⟩)::.int .i64 (m : Int)::J4::J5::J6::J7::J8::J9::K0::K1::K2::K3::K4::K5::K6::K7::K8::K9::L0::L1::L2::L3::L4::L5::L6::L7::L8::L9::M0::M1::M2::M3::M4::M5::M6::M7::M8::M9::N0::N1::N2::N3::N4::N5::[]).toArray, defers := [] } W' := by
    delta ops12_14
    intro W' hb
    refine wpAny_ready (rs := [1, 9]) (by kernel_rfl) (by simp) ?_
    refine AllReady.cons rfl (fun K hK => ?_) (AllReady.cons rfl (fun K hK => ?_) (AllReady.nil))
    ·
      have q0 := (hV.next hb).cell 0 _ rfl
      go_simp
      refine hK _ _ ?_
      clear hK K
      refine wpAny_at (listed' := (true::true::true::true::true::true::true::false::false::false::false::[]).toArray) (a' := { tmps := (A0::.pointer (some ⟨b1, 0, none⟩)::A2::A3::A4::A5::A6::.int .i64 (k : Int)::A8::A9::B0::B1::B2::B3::B4::B5::B6::B7::B8::B9::C0::C1::C2::C3::C4::C5::C6::C7::C8::C9::D0::D1::D2::D3::D4::D5::D6::D7::D8::D9::E0::E1::E2::E3::E4::E5::E6::E7::E8::E9::F0::F1::F2::F3::F4::F5::F6::F7::F8::F9::G0::G1::G2::G3::G4::G5::G6::G7::G8::G9::H0::H1::H2::H3::H4::H5::H6::H7::H8::H9::I0::I1::I2::I3::I4::I5::I6::.pointer (some ⟨b1, 0, none⟩)::.slice (some ⟨vb, vo, none⟩) n vc::.pointer (some ⟨b1, 3, none⟩)::.slice (some ⟨kb, ko, none⟩) kn kc::.int .i64 (k : Int)::.pointer (some ⟨kb, ko + k, none⟩)::.int .i64 (m : Int)::J4::J5::J6::J7::J8::J9::K0::K1::K2::K3::K4::K5::K6::K7::K8::K9::L0::L1::L2::L3::L4::L5::L6::L7::L8::L9::M0::M1::M2::M3::M4::M5::M6::M7::M8::M9::N0::N1::N2::N3::N4::N5::[]).toArray, defers := [] }) (by kernel_rfl) (by kernel_rfl) ?_
      refine wpAny_take (i := 7) (v := .pointer (some ⟨vb, vo + m * 4, none⟩)) rfl (by kernel_rfl) (by kernel_rfl) (by kernel_rfl) (fun _ _ _ h => HQp.out _ _ _ _ h) (Or.inl ⟨by rfl, by intro w; go_simp⟩) ?_
      refine wpAny_at (listed' := (true::true::true::true::true::true::true::true::false::false::false::[]).toArray) (a' := { tmps := (A0::.pointer (some ⟨b1, 0, none⟩)::A2::A3::A4::A5::A6::.int .i64 (k : Int)::A8::A9::B0::B1::B2::B3::B4::B5::B6::B7::B8::B9::C0::C1::C2::C3::C4::C5::C6::C7::C8::C9::D0::D1::D2::D3::D4::D5::D6::D7::D8::D9::E0::E1::E2::E3::E4::E5::E6::E7::E8::E9::F0::F1::F2::F3::F4::F5::F6::F7::F8::F9::G0::G1::G2::G3::G4::G5::G6::G7::G8::G9::H0::H1::H2::H3::H4::H5::H6::H7::H8::H9::I0::I1::I2::I3::I4::I5::I6::.pointer (some ⟨b1, 0, none⟩)::.slice (some ⟨vb, vo, none⟩) n vc::.pointer (some ⟨b1, 3, none⟩)::.slice (some ⟨kb, ko, none⟩) kn kc::.int .i64 (k : Int)::.pointer (some ⟨kb, ko + k, none⟩)::.int .i64 (m : Int)::.pointer (some ⟨vb, vo + m * 4, none⟩)::J5::J6::J7::J8::J9::K0::K1::K2::K3::K4::K5::K6::K7::K8::K9::L0::L1::L2::L3::L4::L5::L6::L7::L8::L9::M0::M1::M2::M3::M4::M5::M6::M7::M8::M9::N0::N1::N2::N3::N4::N5::[]).toArray, defers := [] }) (by kernel_rfl) (by kernel_rfl) ?_
      exact s1_3_6 W' hb
    ·
      go_simp
      refine hK _ _ ?_
      clear hK K
      refine wpAny_at (listed' := (true::false::true::true::true::true::true::false::false::true::false::[]).toArray) (a' := { tmps := (A0::.pointer (some ⟨b1, 0, none⟩)::A2::A3::A4::A5::A6::.int .i64 (k : Int)::.pointer (some ⟨W'.heap.size, 0, none⟩)::A9::B0::B1::B2::B3::B4::B5::B6::B7::B8::B9::C0::C1::C2::C3::C4::C5::C6::C7::C8::C9::D0::D1::D2::D3::D4::D5::D6::D7::D8::D9::E0::E1::E2::E3::E4::E5::E6::E7::E8::E9::F0::F1::F2::F3::F4::F5::F6::F7::F8::F9::G0::G1::G2::G3::G4::G5::G6::G7::G8::G9::H0::H1::H2::H3::H4::H5::H6::H7::H8::H9::I0::I1::I2::I3::I4::I5::I6::.pointer (some ⟨b1, 0, none⟩)::I8::.pointer (some ⟨b1, 3, none⟩)::.slice (some ⟨kb, ko, none⟩) kn kc::.int .i64 (k : Int)::.pointer (some ⟨kb, ko + k, none⟩)::.int .i64 (m : Int)::J4::J5::J6::J7::J8::J9::K0::K1::K2::K3::K4::K5::K6::K7::K8::K9::L0::L1::L2::L3::L4::L5::L6::L7::L8::L9::M0::M1::M2::M3::M4::M5::M6::M7::M8::M9::N0::N1::N2::N3::N4::N5::[]).toArray, defers := [] }) (by kernel_rfl) (by kernel_rfl) ?_
      exact s3_6_9 _ (hb.alloc hb.size _) _ hb.size (Box.fresh W' 45 #[.int .i64 0, .int .i64 0, .int .i64 0, .int .i64 0])
  have s3_9 : ∀ W', Below W.heap.size W W' → ∀ g8, W.heap.size ≤ g8 → Box W' g8 45 #[.int .i64 0, .int .i64 0, .int .i64 0, .int .i64 0] → wpAny Tryz.prog .any ops12_14 Q 5 (true::false::true::true::true::true::false::false::false::true::false::[]).toArray { tmps := (A0::.pointer (some ⟨b1, 0, none⟩)::A2::A3::A4::A5::A6::.int .i64 (k : Int)::.pointer (some ⟨g8, 0, none⟩)::A9::B0::B1::B2::B3::B4::B5::B6::B7::B8::B9::C0::C1::C2::C3::C4::C5::C6::C7::C8::C9::D0::D1::D2::D3::D4::D5::D6::D7::D8::D9::E0::E1::E2::E3::E4::E5::E6::E7::E8::E9::F0::F1::F2::F3::F4::F5::F6::F7::F8::F9::G0::G1::G2::G3::G4::G5::G6::G7::G8::G9::H0::H1::H2::H3::H4::H5::H6::H7::H8::H9::I0::I1::I2::I3::I4::I5::I6::.pointer (some ⟨b1, 0, none⟩)::I8::.pointer (some ⟨b1, 3, none⟩)::.slice (some ⟨kb, ko, none⟩) kn kc::.int .i64 (k : Int)::.pointer (some ⟨kb, ko + k, none⟩)::J3::J4::J5::J6::J7::J8::J9::K0::K1::K2::K3::K4::K5::K6::K7::K8::K9::L0::L1::L2::L3::L4::L5::L6::L7::L8::L9::M0::M1::M2::M3::M4::M5::M6::M7::M8::M9::N0::N1::N2::N3::N4::N5::[]).toArray, defers := [] } W' := by
    delta ops12_14
    intro W' hb g8 hge hx
    refine wpAny_ready (rs := [1, 6]) (by kernel_rfl) (by simp) ?_
    refine AllReady.cons rfl (fun K hK => ?_) (AllReady.cons rfl (fun K hK => ?_) (AllReady.nil))
    ·
      have q0 := (hV.next hb).cell 0 _ rfl
      go_simp
      refine hK _ _ ?_
      clear hK K
      refine wpAny_at (listed' := (true::true::true::true::true::true::false::false::false::true::false::[]).toArray) (a' := { tmps := (A0::.pointer (some ⟨b1, 0, none⟩)::A2::A3::A4::A5::A6::.int .i64 (k : Int)::.pointer (some ⟨g8, 0, none⟩)::A9::B0::B1::B2::B3::B4::B5::B6::B7::B8::B9::C0::C1::C2::C3::C4::C5::C6::C7::C8::C9::D0::D1::D2::D3::D4::D5::D6::D7::D8::D9::E0::E1::E2::E3::E4::E5::E6::E7::E8::E9::F0::F1::F2::F3::F4::F5::F6::F7::F8::F9::G0::G1::G2::G3::G4::G5::G6::G7::G8::G9::H0::H1::H2::H3::H4::H5::H6::H7::H8::H9::I0::I1::I2::I3::I4::I5::I6::.pointer (some ⟨b1, 0, none⟩)::.slice (some ⟨vb, vo, none⟩) n vc::.pointer (some ⟨b1, 3, none⟩)::.slice (some ⟨kb, ko, none⟩) kn kc::.int .i64 (k : Int)::.pointer (some ⟨kb, ko + k, none⟩)::J3::J4::J5::J6::J7::J8::J9::K0::K1::K2::K3::K4::K5::K6::K7::K8::K9::L0::L1::L2::L3::L4::L5::L6::L7::L8::L9::M0::M1::M2::M3::M4::M5::M6::M7::M8::M9::N0::N1::N2::N3::N4::N5::[]).toArray, defers := [] }) (by kernel_rfl) (by kernel_rfl) ?_
      exact s1_3_9 W' hb g8 hge hx
    ·
      have q0 : W'.cell? ⟨kb, ko + k, none⟩ = some (.int .i64 (m : Int)) := by rw [hb.cell (p := ⟨kb, ko + k, none⟩) hkl]; exact hK0
      go_simp
      refine hK _ _ ?_
      clear hK K
      refine wpAny_at (listed' := (true::false::true::true::true::true::true::false::false::true::false::[]).toArray) (a' := { tmps := (A0::.pointer (some ⟨b1, 0, none⟩)::A2::A3::A4::A5::A6::.int .i64 (k : Int)::.pointer (some ⟨g8, 0, none⟩)::A9::B0::B1::B2::B3::B4::B5::B6::B7::B8::B9::C0::C1::C2::C3::C4::C5::C6::C7::C8::C9::D0::D1::D2::D3::D4::D5::D6::D7::D8::D9::E0::E1::E2::E3::E4::E5::E6::E7::E8::E9::F0::F1::F2::F3::F4::F5::F6::F7::F8::F9::G0::G1::G2::G3::G4::G5::G6::G7::G8::G9::H0::H1::H2::H3::H4::H5::H6::H7::H8::H9::I0::I1::I2::I3::I4::I5::I6::.pointer (some ⟨b1, 0, none⟩)::I8::.pointer (some ⟨b1, 3, none⟩)::.slice (some ⟨kb, ko, none⟩) kn kc::.int .i64 (k : Int)::.pointer (some ⟨kb, ko + k, none⟩)::.int .i64 (m : Int)::J4::J5::J6::J7::J8::J9::K0::K1::K2::K3::K4::K5::K6::K7::K8::K9::L0::L1::L2::L3::L4::L5::L6::L7::L8::L9::M0::M1::M2::M3::M4::M5::M6::M7::M8::M9::N0::N1::N2::N3::N4::N5::[]).toArray, defers := [] }) (by kernel_rfl) (by kernel_rfl) ?_
      exact s3_6_9 W' hb g8 hge hx
  have s1_9 : ∀ W', Below W.heap.size W W' → ∀ g8, W.heap.size ≤ g8 → Box W' g8 45 #[.int .i64 0, .int .i64 0, .int .i64 0, .int .i64 0] → wpAny Tryz.prog .any ops12_14 Q 6 (true::true::true::false::true::false::false::false::false::true::false::[]).toArray { tmps := (A0::.pointer (some ⟨b1, 0, none⟩)::A2::A3::A4::A5::A6::.int .i64 (k : Int)::.pointer (some ⟨g8, 0, none⟩)::A9::B0::B1::B2::B3::B4::B5::B6::B7::B8::B9::C0::C1::C2::C3::C4::C5::C6::C7::C8::C9::D0::D1::D2::D3::D4::D5::D6::D7::D8::D9::E0::E1::E2::E3::E4::E5::E6::E7::E8::E9::F0::F1::F2::F3::F4::F5::F6::F7::F8::F9::G0::G1::G2::G3::G4::G5::G6::G7::G8::G9::H0::H1::H2::H3::H4::H5::H6::H7::H8::H9::I0::I1::I2::I3::I4::I5::I6::.pointer (some ⟨b1, 0, none⟩)::.slice (some ⟨vb, vo, none⟩) n vc::.pointer (some ⟨b1, 3, none⟩)::J0::.int .i64 (k : Int)::J2::J3::J4::J5::J6::J7::J8::J9::K0::K1::K2::K3::K4::K5::K6::K7::K8::K9::L0::L1::L2::L3::L4::L5::L6::L7::L8::L9::M0::M1::M2::M3::M4::M5::M6::M7::M8::M9::N0::N1::N2::N3::N4::N5::[]).toArray, defers := [] } W' := by
    delta ops12_14
    intro W' hb g8 hge hx
    refine wpAny_ready (rs := [3]) (by kernel_rfl) (by simp) ?_
    refine AllReady.cons rfl (fun K hK => ?_) (AllReady.nil)
    ·
      have q0 := (hV.next hb).cell 3 _ rfl
      go_simp
      refine hK _ _ ?_
      clear hK K
      refine wpAny_at (listed' := (true::true::true::true::true::false::false::false::false::true::false::[]).toArray) (a' := { tmps := (A0::.pointer (some ⟨b1, 0, none⟩)::A2::A3::A4::A5::A6::.int .i64 (k : Int)::.pointer (some ⟨g8, 0, none⟩)::A9::B0::B1::B2::B3::B4::B5::B6::B7::B8::B9::C0::C1::C2::C3::C4::C5::C6::C7::C8::C9::D0::D1::D2::D3::D4::D5::D6::D7::D8::D9::E0::E1::E2::E3::E4::E5::E6::E7::E8::E9::F0::F1::F2::F3::F4::F5::F6::F7::F8::F9::G0::G1::G2::G3::G4::G5::G6::G7::G8::G9::H0::H1::H2::H3::H4::H5::H6::H7::H8::H9::I0::I1::I2::I3::I4::I5::I6::.pointer (some ⟨b1, 0, none⟩)::.slice (some ⟨vb, vo, none⟩) n vc::.pointer (some ⟨b1, 3, none⟩)::.slice (some ⟨kb, ko, none⟩) kn kc::.int .i64 (k : Int)::J2::J3::J4::J5::J6::J7::J8::J9::K0::K1::K2::K3::K4::K5::K6::K7::K8::K9::L0::L1::L2::L3::L4::L5::L6::L7::L8::L9::M0::M1::M2::M3::M4::M5::M6::M7::M8::M9::N0::N1::N2::N3::N4::N5::[]).toArray, defers := [] }) (by kernel_rfl) (by kernel_rfl) ?_
      refine wpAny_take (i := 5) (v := .pointer (some ⟨kb, ko + k, none⟩)) rfl (by kernel_rfl) (by kernel_rfl) (by kernel_rfl) (fun _ _ _ h => HQp.out _ _ _ _ h) (Or.inl ⟨by rfl, by intro w; go_simp⟩) ?_
      refine wpAny_at (listed' := (true::true::true::true::true::true::false::false::false::true::false::[]).toArray) (a' := { tmps := (A0::.pointer (some ⟨b1, 0, none⟩)::A2::A3::A4::A5::A6::.int .i64 (k : Int)::.pointer (some ⟨g8, 0, none⟩)::A9::B0::B1::B2::B3::B4::B5::B6::B7::B8::B9::C0::C1::C2::C3::C4::C5::C6::C7::C8::C9::D0::D1::D2::D3::D4::D5::D6::D7::D8::D9::E0::E1::E2::E3::E4::E5::E6::E7::E8::E9::F0::F1::F2::F3::F4::F5::F6::F7::F8::F9::G0::G1::G2::G3::G4::G5::G6::G7::G8::G9::H0::H1::H2::H3::H4::H5::H6::H7::H8::H9::I0::I1::I2::I3::I4::I5::I6::.pointer (some ⟨b1, 0, none⟩)::.slice (some ⟨vb, vo, none⟩) n vc::.pointer (some ⟨b1, 3, none⟩)::.slice (some ⟨kb, ko, none⟩) kn kc::.int .i64 (k : Int)::.pointer (some ⟨kb, ko + k, none⟩)::J3::J4::J5::J6::J7::J8::J9::K0::K1::K2::K3::K4::K5::K6::K7::K8::K9::L0::L1::L2::L3::L4::L5::L6::L7::L8::L9::M0::M1::M2::M3::M4::M5::M6::M7::M8::M9::N0::N1::N2::N3::N4::N5::[]).toArray, defers := [] }) (by kernel_rfl) (by kernel_rfl) ?_
      exact s1_3_9 W' hb g8 hge hx
  have s3 : ∀ W', Below W.heap.size W W' → wpAny Tryz.prog .any ops12_14 Q 6 (true::false::true::true::true::true::false::false::false::false::false::[]).toArray { tmps := (A0::.pointer (some ⟨b1, 0, none⟩)::A2::A3::A4::A5::A6::.int .i64 (k : Int)::A8::A9::B0::B1::B2::B3::B4::B5::B6::B7::B8::B9::C0::C1::C2::C3::C4::C5::C6::C7::C8::C9::D0::D1::D2::D3::D4::D5::D6::D7::D8::D9::E0::E1::E2::E3::E4::E5::E6::E7::E8::E9::F0::F1::F2::F3::F4::F5::F6::F7::F8::F9::G0::G1::G2::G3::G4::G5::G6::G7::G8::G9::H0::H1::H2::H3::H4::H5::H6::H7::H8::H9::I0::I1::I2::I3::I4::I5::I6::.pointer (some ⟨b1, 0, none⟩)::I8::.pointer (some ⟨b1, 3, none⟩)::.slice (some ⟨kb, ko, none⟩) kn kc::.int .i64 (k : Int)::.pointer (some ⟨kb, ko + k, none⟩)::J3::J4::J5::J6::J7::J8::J9::K0::K1::K2::K3::K4::K5::K6::K7::K8::K9::L0::L1::L2::L3::L4::L5::L6::L7::L8::L9::M0::M1::M2::M3::M4::M5::M6::M7::M8::M9::N0::N1::N2::N3::N4::N5::[]).toArray, defers := [] } W' := by
    delta ops12_14
    intro W' hb
    refine wpAny_ready (rs := [1, 6, 9]) (by kernel_rfl) (by simp) ?_
    refine AllReady.cons rfl (fun K hK => ?_) (AllReady.cons rfl (fun K hK => ?_) (AllReady.cons rfl (fun K hK => ?_) (AllReady.nil)))
    ·
      have q0 := (hV.next hb).cell 0 _ rfl
      go_simp
      refine hK _ _ ?_
      clear hK K
      refine wpAny_at (listed' := (true::true::true::true::true::true::false::false::false::false::false::[]).toArray) (a' := { tmps := (A0::.pointer (some ⟨b1, 0, none⟩)::A2::A3::A4::A5::A6::.int .i64 (k : Int)::A8::A9::B0::B1::B2::B3::B4::B5::B6::B7::B8::B9::C0::C1::C2::C3::C4::C5::C6::C7::C8::C9::D0::D1::D2::D3::D4::D5::D6::D7::D8::D9::E0::E1::E2::E3::E4::E5::E6::E7::E8::E9::F0::F1::F2::F3::F4::F5::F6::F7::F8::F9::G0::G1::G2::G3::G4::G5::G6::G7::G8::G9::H0::H1::H2::H3::H4::H5::H6::H7::H8::H9::I0::I1::I2::I3::I4::I5::I6::.pointer (some ⟨b1, 0, none⟩)::.slice (some ⟨vb, vo, none⟩) n vc::.pointer (some ⟨b1, 3, none⟩)::.slice (some ⟨kb, ko, none⟩) kn kc::.int .i64 (k : Int)::.pointer (some ⟨kb, ko + k, none⟩)::J3::J4::J5::J6::J7::J8::J9::K0::K1::K2::K3::K4::K5::K6::K7::K8::K9::L0::L1::L2::L3::L4::L5::L6::L7::L8::L9::M0::M1::M2::M3::M4::M5::M6::M7::M8::M9::N0::N1::N2::N3::N4::N5::[]).toArray, defers := [] }) (by kernel_rfl) (by kernel_rfl) ?_
      exact s1_3 W' hb
    ·
      have q0 : W'.cell? ⟨kb, ko + k, none⟩ = some (.int .i64 (m : Int)) := by rw [hb.cell (p := ⟨kb, ko + k, none⟩) hkl]; exact hK0
      go_simp
      refine hK _ _ ?_
      clear hK K
      refine wpAny_at (listed' := (true::false::true::true::true::true::true::false::false::false::false::[]).toArray) (a' := { tmps := (A0::.pointer (some ⟨b1, 0, none⟩)::A2::A3::A4::A5::A6::.int .i64 (k : Int)::A8::A9::B0::B1::B2::B3::B4::B5::B6::B7::B8::B9::C0::C1::C2::C3::C4::C5::C6::C7::C8::C9::D0::D1::D2::D3::D4::D5::D6::D7::D8::D9::E0::E1::E2::E3::E4::E5::E6::E7::E8::E9::F0::F1::F2::F3::F4::F5::F6::F7::F8::F9::G0::G1::G2::G3::G4::G5::G6::G7::G8::G9::H0::H1::H2::H3::H4::H5::H6::H7::H8::H9::I0::I1::I2::I3::I4::I5::I6::.pointer (some ⟨b1, 0, none⟩)::I8::.pointer (some ⟨b1, 3, none⟩)::.slice (some ⟨kb, ko, none⟩) kn kc::.int .i64 (k : Int)::.pointer (some ⟨kb, ko + k, none⟩)::.int .i64 (m : Int)::J4::J5::J6::J7::J8::J9::K0::K1::K2::K3::K4::K5::K6::K7::K8::K9::L0::L1::L2::L3::L4::L5::L6::L7::L8::L9::M0::M1::M2::M3::M4::M5::M6::M7::M8::M9::N0::N1::N2::N3::N4::N5::[]).toArray, defers := [] }) (by kernel_rfl) (by kernel_rfl) ?_
      exact s3_6 W' hb
    ·
      go_simp
      refine hK _ _ ?_
      clear hK K
      refine wpAny_at (listed' := (true::false::true::true::true::true::false::false::false::true::false::[]).toArray) (a' := { tmps := (A0::.pointer (some ⟨b1, 0, none⟩)::A2::A3::A4::A5::A6::.int .i64 (k : Int)::.pointer (some ⟨W'.heap.size, 0, none⟩)::A9::B0::B1::B2::B3::B4::B5::B6::B7::B8::B9::C0::C1::C2::C3::C4::C5::C6::C7::C8::C9::D0::D1::D2::D3::D4::D5::D6::D7::D8::D9::E0::E1::E2::E3::E4::E5::E6::E7::E8::E9::F0::F1::F2::F3::F4::F5::F6::F7::F8::F9::G0::G1::G2::G3::G4::G5::G6::G7::G8::G9::H0::H1::H2::H3::H4::H5::H6::H7::H8::H9::I0::I1::I2::I3::I4::I5::I6::.pointer (some ⟨b1, 0, none⟩)::I8::.pointer (some ⟨b1, 3, none⟩)::.slice (some ⟨kb, ko, none⟩) kn kc::.int .i64 (k : Int)::.pointer (some ⟨kb, ko + k, none⟩)::J3::J4::J5::J6::J7::J8::J9::K0::K1::K2::K3::K4::K5::K6::K7::K8::K9::L0::L1::L2::L3::L4::L5::L6::L7::L8::L9::M0::M1::M2::M3::M4::M5::M6::M7::M8::M9::N0::N1::N2::N3::N4::N5::[]).toArray, defers := [] }) (by kernel_rfl) (by kernel_rfl) ?_
      exact s3_9 _ (hb.alloc hb.size _) _ hb.size (Box.fresh W' 45 #[.int .i64 0, .int .i64 0, .int .i64 0, .int .i64 0])
  have s1 : ∀ W', Below W.heap.size W W' → wpAny Tryz.prog .any ops12_14 Q 7 (true::true::true::false::true::false::false::false::false::false::false::[]).toArray { tmps := (A0::.pointer (some ⟨b1, 0, none⟩)::A2::A3::A4::A5::A6::.int .i64 (k : Int)::A8::A9::B0::B1::B2::B3::B4::B5::B6::B7::B8::B9::C0::C1::C2::C3::C4::C5::C6::C7::C8::C9::D0::D1::D2::D3::D4::D5::D6::D7::D8::D9::E0::E1::E2::E3::E4::E5::E6::E7::E8::E9::F0::F1::F2::F3::F4::F5::F6::F7::F8::F9::G0::G1::G2::G3::G4::G5::G6::G7::G8::G9::H0::H1::H2::H3::H4::H5::H6::H7::H8::H9::I0::I1::I2::I3::I4::I5::I6::.pointer (some ⟨b1, 0, none⟩)::.slice (some ⟨vb, vo, none⟩) n vc::.pointer (some ⟨b1, 3, none⟩)::J0::.int .i64 (k : Int)::J2::J3::J4::J5::J6::J7::J8::J9::K0::K1::K2::K3::K4::K5::K6::K7::K8::K9::L0::L1::L2::L3::L4::L5::L6::L7::L8::L9::M0::M1::M2::M3::M4::M5::M6::M7::M8::M9::N0::N1::N2::N3::N4::N5::[]).toArray, defers := [] } W' := by
    delta ops12_14
    intro W' hb
    refine wpAny_ready (rs := [3, 9]) (by kernel_rfl) (by simp) ?_
    refine AllReady.cons rfl (fun K hK => ?_) (AllReady.cons rfl (fun K hK => ?_) (AllReady.nil))
    ·
      have q0 := (hV.next hb).cell 3 _ rfl
      go_simp
      refine hK _ _ ?_
      clear hK K
      refine wpAny_at (listed' := (true::true::true::true::true::false::false::false::false::false::false::[]).toArray) (a' := { tmps := (A0::.pointer (some ⟨b1, 0, none⟩)::A2::A3::A4::A5::A6::.int .i64 (k : Int)::A8::A9::B0::B1::B2::B3::B4::B5::B6::B7::B8::B9::C0::C1::C2::C3::C4::C5::C6::C7::C8::C9::D0::D1::D2::D3::D4::D5::D6::D7::D8::D9::E0::E1::E2::E3::E4::E5::E6::E7::E8::E9::F0::F1::F2::F3::F4::F5::F6::F7::F8::F9::G0::G1::G2::G3::G4::G5::G6::G7::G8::G9::H0::H1::H2::H3::H4::H5::H6::H7::H8::H9::I0::I1::I2::I3::I4::I5::I6::.pointer (some ⟨b1, 0, none⟩)::.slice (some ⟨vb, vo, none⟩) n vc::.pointer (some ⟨b1, 3, none⟩)::.slice (some ⟨kb, ko, none⟩) kn kc::.int .i64 (k : Int)::J2::J3::J4::J5::J6::J7::J8::J9::K0::K1::K2::K3::K4::K5::K6::K7::K8::K9::L0::L1::L2::L3::L4::L5::L6::L7::L8::L9::M0::M1::M2::M3::M4::M5::M6::M7::M8::M9::N0::N1::N2::N3::N4::N5::[]).toArray, defers := [] }) (by kernel_rfl) (by kernel_rfl) ?_
      refine wpAny_take (i := 5) (v := .pointer (some ⟨kb, ko + k, none⟩)) rfl (by kernel_rfl) (by kernel_rfl) (by kernel_rfl) (fun _ _ _ h => HQp.out _ _ _ _ h) (Or.inl ⟨by rfl, by intro w; go_simp⟩) ?_
      refine wpAny_at (listed' := (true::true::true::true::true::true::false::false::false::false::false::[]).toArray) (a' := { tmps := (A0::.pointer (some ⟨b1, 0, none⟩)::A2::A3::A4::A5::A6::.int .i64 (k : Int)::A8::A9::B0::B1::B2::B3::B4::B5::B6::B7::B8::B9::C0::C1::C2::C3::C4::C5::C6::C7::C8::C9::D0::D1::D2::D3::D4::D5::D6::D7::D8::D9::E0::E1::E2::E3::E4::E5::E6::E7::E8::E9::F0::F1::F2::F3::F4::F5::F6::F7::F8::F9::G0::G1::G2::G3::G4::G5::G6::G7::G8::G9::H0::H1::H2::H3::H4::H5::H6::H7::H8::H9::I0::I1::I2::I3::I4::I5::I6::.pointer (some ⟨b1, 0, none⟩)::.slice (some ⟨vb, vo, none⟩) n vc::.pointer (some ⟨b1, 3, none⟩)::.slice (some ⟨kb, ko, none⟩) kn kc::.int .i64 (k : Int)::.pointer (some ⟨kb, ko + k, none⟩)::J3::J4::J5::J6::J7::J8::J9::K0::K1::K2::K3::K4::K5::K6::K7::K8::K9::L0::L1::L2::L3::L4::L5::L6::L7::L8::L9::M0::M1::M2::M3::M4::M5::M6::M7::M8::M9::N0::N1::N2::N3::N4::N5::[]).toArray, defers := [] }) (by kernel_rfl) (by kernel_rfl) ?_
      exact s1_3 W' hb
    ·
      go_simp
      refine hK _ _ ?_
      clear hK K
      refine wpAny_at (listed' := (true::true::true::false::true::false::false::false::false::true::false::[]).toArray) (a' := { tmps := (A0::.pointer (some ⟨b1, 0, none⟩)::A2::A3::A4::A5::A6::.int .i64 (k : Int)::.pointer (some ⟨W'.heap.size, 0, none⟩)::A9::B0::B1::B2::B3::B4::B5::B6::B7::B8::B9::C0::C1::C2::C3::C4::C5::C6::C7::C8::C9::D0::D1::D2::D3::D4::D5::D6::D7::D8::D9::E0::E1::E2::E3::E4::E5::E6::E7::E8::E9::F0::F1::F2::F3::F4::F5::F6::F7::F8::F9::G0::G1::G2::G3::G4::G5::G6::G7::G8::G9::H0::H1::H2::H3::H4::H5::H6::H7::H8::H9::I0::I1::I2::I3::I4::I5::I6::.pointer (some ⟨b1, 0, none⟩)::.slice (some ⟨vb, vo, none⟩) n vc::.pointer (some ⟨b1, 3, none⟩)::J0::.int .i64 (k : Int)::J2::J3::J4::J5::J6::J7::J8::J9::K0::K1::K2::K3::K4::K5::K6::K7::K8::K9::L0::L1::L2::L3::L4::L5::L6::L7::L8::L9::M0::M1::M2::M3::M4::M5::M6::M7::M8::M9::N0::N1::N2::N3::N4::N5::[]).toArray, defers := [] }) (by kernel_rfl) (by kernel_rfl) ?_
      exact s1_9 _ (hb.alloc hb.size _) _ hb.size (Box.fresh W' 45 #[.int .i64 0, .int .i64 0, .int .i64 0, .int .i64 0])
  have s9 : ∀ W', Below W.heap.size W W' → ∀ g8, W.heap.size ≤ g8 → Box W' g8 45 #[.int .i64 0, .int .i64 0, .int .i64 0, .int .i64 0] → wpAny Tryz.prog .any ops12_14 Q 7 (true::false::true::false::true::false::false::false::false::true::false::[]).toArray { tmps := (A0::.pointer (some ⟨b1, 0, none⟩)::A2::A3::A4::A5::A6::.int .i64 (k : Int)::.pointer (some ⟨g8, 0, none⟩)::A9::B0::B1::B2::B3::B4::B5::B6::B7::B8::B9::C0::C1::C2::C3::C4::C5::C6::C7::C8::C9::D0::D1::D2::D3::D4::D5::D6::D7::D8::D9::E0::E1::E2::E3::E4::E5::E6::E7::E8::E9::F0::F1::F2::F3::F4::F5::F6::F7::F8::F9::G0::G1::G2::G3::G4::G5::G6::G7::G8::G9::H0::H1::H2::H3::H4::H5::H6::H7::H8::H9::I0::I1::I2::I3::I4::I5::I6::.pointer (some ⟨b1, 0, none⟩)::I8::.pointer (some ⟨b1, 3, none⟩)::J0::.int .i64 (k : Int)::J2::J3::J4::J5::J6::J7::J8::J9::K0::K1::K2::K3::K4::K5::K6::K7::K8::K9::L0::L1::L2::L3::L4::L5::L6::L7::L8::L9::M0::M1::M2::M3::M4::M5::M6::M7::M8::M9::N0::N1::N2::N3::N4::N5::[]).toArray, defers := [] } W' := by
    delta ops12_14
    intro W' hb g8 hge hx
    refine wpAny_ready (rs := [1, 3]) (by kernel_rfl) (by simp) ?_
    refine AllReady.cons rfl (fun K hK => ?_) (AllReady.cons rfl (fun K hK => ?_) (AllReady.nil))
    ·
      have q0 := (hV.next hb).cell 0 _ rfl
      go_simp
      refine hK _ _ ?_
      clear hK K
      refine wpAny_at (listed' := (true::true::true::false::true::false::false::false::false::true::false::[]).toArray) (a' := { tmps := (A0::.pointer (some ⟨b1, 0, none⟩)::A2::A3::A4::A5::A6::.int .i64 (k : Int)::.pointer (some ⟨g8, 0, none⟩)::A9::B0::B1::B2::B3::B4::B5::B6::B7::B8::B9::C0::C1::C2::C3::C4::C5::C6::C7::C8::C9::D0::D1::D2::D3::D4::D5::D6::D7::D8::D9::E0::E1::E2::E3::E4::E5::E6::E7::E8::E9::F0::F1::F2::F3::F4::F5::F6::F7::F8::F9::G0::G1::G2::G3::G4::G5::G6::G7::G8::G9::H0::H1::H2::H3::H4::H5::H6::H7::H8::H9::I0::I1::I2::I3::I4::I5::I6::.pointer (some ⟨b1, 0, none⟩)::.slice (some ⟨vb, vo, none⟩) n vc::.pointer (some ⟨b1, 3, none⟩)::J0::.int .i64 (k : Int)::J2::J3::J4::J5::J6::J7::J8::J9::K0::K1::K2::K3::K4::K5::K6::K7::K8::K9::L0::L1::L2::L3::L4::L5::L6::L7::L8::L9::M0::M1::M2::M3::M4::M5::M6::M7::M8::M9::N0::N1::N2::N3::N4::N5::[]).toArray, defers := [] }) (by kernel_rfl) (by kernel_rfl) ?_
      exact s1_9 W' hb g8 hge hx
    ·
      have q0 := (hV.next hb).cell 3 _ rfl
      go_simp
      refine hK _ _ ?_
      clear hK K
      refine wpAny_at (listed' := (true::false::true::true::true::false::false::false::false::true::false::[]).toArray) (a' := { tmps := (A0::.pointer (some ⟨b1, 0, none⟩)::A2::A3::A4::A5::A6::.int .i64 (k : Int)::.pointer (some ⟨g8, 0, none⟩)::A9::B0::B1::B2::B3::B4::B5::B6::B7::B8::B9::C0::C1::C2::C3::C4::C5::C6::C7::C8::C9::D0::D1::D2::D3::D4::D5::D6::D7::D8::D9::E0::E1::E2::E3::E4::E5::E6::E7::E8::E9::F0::F1::F2::F3::F4::F5::F6::F7::F8::F9::G0::G1::G2::G3::G4::G5::G6::G7::G8::G9::H0::H1::H2::H3::H4::H5::H6::H7::H8::H9::I0::I1::I2::I3::I4::I5::I6::.pointer (some ⟨b1, 0, none⟩)::I8::.pointer (some ⟨b1, 3, none⟩)::.slice (some ⟨kb, ko, none⟩) kn kc::.int .i64 (k : Int)::J2::J3::J4::J5::J6::J7::J8::J9::K0::K1::K2::K3::K4::K5::K6::K7::K8::K9::L0::L1::L2::L3::L4::L5::L6::L7::L8::L9::M0::M1::M2::M3::M4::M5::M6::M7::M8::M9::N0::N1::N2::N3::N4::N5::[]).toArray, defers := [] }) (by kernel_rfl) (by kernel_rfl) ?_
      refine wpAny_take (i := 5) (v := .pointer (some ⟨kb, ko + k, none⟩)) rfl (by kernel_rfl) (by kernel_rfl) (by kernel_rfl) (fun _ _ _ h => HQp.out _ _ _ _ h) (Or.inl ⟨by rfl, by intro w; go_simp⟩) ?_
      refine wpAny_at (listed' := (true::false::true::true::true::true::false::false::false::true::false::[]).toArray) (a' := { tmps := (A0::.pointer (some ⟨b1, 0, none⟩)::A2::A3::A4::A5::A6::.int .i64 (k : Int)::.pointer (some ⟨g8, 0, none⟩)::A9::B0::B1::B2::B3::B4::B5::B6::B7::B8::B9::C0::C1::C2::C3::C4::C5::C6::C7::C8::C9::D0::D1::D2::D3::D4::D5::D6::D7::D8::D9::E0::E1::E2::E3::E4::E5::E6::E7::E8::E9::F0::F1::F2::F3::F4::F5::F6::F7::F8::F9::G0::G1::G2::G3::G4::G5::G6::G7::G8::G9::H0::H1::H2::H3::H4::H5::H6::H7::H8::H9::I0::I1::I2::I3::I4::I5::I6::.pointer (some ⟨b1, 0, none⟩)::I8::.pointer (some ⟨b1, 3, none⟩)::.slice (some ⟨kb, ko, none⟩) kn kc::.int .i64 (k : Int)::.pointer (some ⟨kb, ko + k, none⟩)::J3::J4::J5::J6::J7::J8::J9::K0::K1::K2::K3::K4::K5::K6::K7::K8::K9::L0::L1::L2::L3::L4::L5::L6::L7::L8::L9::M0::M1::M2::M3::M4::M5::M6::M7::M8::M9::N0::N1::N2::N3::N4::N5::[]).toArray, defers := [] }) (by kernel_rfl) (by kernel_rfl) ?_
      exact s3_9 W' hb g8 hge hx
  have s : ∀ W', Below W.heap.size W W' → wpAny Tryz.prog .any ops12_14 Q 8 (true::false::true::false::true::false::false::false::false::false::false::[]).toArray { tmps := (A0::.pointer (some ⟨b1, 0, none⟩)::A2::A3::A4::A5::A6::.int .i64 (k : Int)::A8::A9::B0::B1::B2::B3::B4::B5::B6::B7::B8::B9::C0::C1::C2::C3::C4::C5::C6::C7::C8::C9::D0::D1::D2::D3::D4::D5::D6::D7::D8::D9::E0::E1::E2::E3::E4::E5::E6::E7::E8::E9::F0::F1::F2::F3::F4::F5::F6::F7::F8::F9::G0::G1::G2::G3::G4::G5::G6::G7::G8::G9::H0::H1::H2::H3::H4::H5::H6::H7::H8::H9::I0::I1::I2::I3::I4::I5::I6::.pointer (some ⟨b1, 0, none⟩)::I8::.pointer (some ⟨b1, 3, none⟩)::J0::.int .i64 (k : Int)::J2::J3::J4::J5::J6::J7::J8::J9::K0::K1::K2::K3::K4::K5::K6::K7::K8::K9::L0::L1::L2::L3::L4::L5::L6::L7::L8::L9::M0::M1::M2::M3::M4::M5::M6::M7::M8::M9::N0::N1::N2::N3::N4::N5::[]).toArray, defers := [] } W' := by
    delta ops12_14
    intro W' hb
    refine wpAny_ready (rs := [1, 3, 9]) (by kernel_rfl) (by simp) ?_
    refine AllReady.cons rfl (fun K hK => ?_) (AllReady.cons rfl (fun K hK => ?_) (AllReady.cons rfl (fun K hK => ?_) (AllReady.nil)))
    ·
      have q0 := (hV.next hb).cell 0 _ rfl
      go_simp
      refine hK _ _ ?_
      clear hK K
      refine wpAny_at (listed' := (true::true::true::false::true::false::false::false::false::false::false::[]).toArray) (a' := { tmps := (A0::.pointer (some ⟨b1, 0, none⟩)::A2::A3::A4::A5::A6::.int .i64 (k : Int)::A8::A9::B0::B1::B2::B3::B4::B5::B6::B7::B8::B9::C0::C1::C2::C3::C4::C5::C6::C7::C8::C9::D0::D1::D2::D3::D4::D5::D6::D7::D8::D9::E0::E1::E2::E3::E4::E5::E6::E7::E8::E9::F0::F1::F2::F3::F4::F5::F6::F7::F8::F9::G0::G1::G2::G3::G4::G5::G6::G7::G8::G9::H0::H1::H2::H3::H4::H5::H6::H7::H8::H9::I0::I1::I2::I3::I4::I5::I6::.pointer (some ⟨b1, 0, none⟩)::.slice (some ⟨vb, vo, none⟩) n vc::.pointer (some ⟨b1, 3, none⟩)::J0::.int .i64 (k : Int)::J2::J3::J4::J5::J6::J7::J8::J9::K0::K1::K2::K3::K4::K5::K6::K7::K8::K9::L0::L1::L2::L3::L4::L5::L6::L7::L8::L9::M0::M1::M2::M3::M4::M5::M6::M7::M8::M9::N0::N1::N2::N3::N4::N5::[]).toArray, defers := [] }) (by kernel_rfl) (by kernel_rfl) ?_
      exact s1 W' hb
    ·
      have q0 := (hV.next hb).cell 3 _ rfl
      go_simp
      refine hK _ _ ?_
      clear hK K
      refine wpAny_at (listed' := (true::false::true::true::true::false::false::false::false::false::false::[]).toArray) (a' := { tmps := (A0::.pointer (some ⟨b1, 0, none⟩)::A2::A3::A4::A5::A6::.int .i64 (k : Int)::A8::A9::B0::B1::B2::B3::B4::B5::B6::B7::B8::B9::C0::C1::C2::C3::C4::C5::C6::C7::C8::C9::D0::D1::D2::D3::D4::D5::D6::D7::D8::D9::E0::E1::E2::E3::E4::E5::E6::E7::E8::E9::F0::F1::F2::F3::F4::F5::F6::F7::F8::F9::G0::G1::G2::G3::G4::G5::G6::G7::G8::G9::H0::H1::H2::H3::H4::H5::H6::H7::H8::H9::I0::I1::I2::I3::I4::I5::I6::.pointer (some ⟨b1, 0, none⟩)::I8::.pointer (some ⟨b1, 3, none⟩)::.slice (some ⟨kb, ko, none⟩) kn kc::.int .i64 (k : Int)::J2::J3::J4::J5::J6::J7::J8::J9::K0::K1::K2::K3::K4::K5::K6::K7::K8::K9::L0::L1::L2::L3::L4::L5::L6::L7::L8::L9::M0::M1::M2::M3::M4::M5::M6::M7::M8::M9::N0::N1::N2::N3::N4::N5::[]).toArray, defers := [] }) (by kernel_rfl) (by kernel_rfl) ?_
      refine wpAny_take (i := 5) (v := .pointer (some ⟨kb, ko + k, none⟩)) rfl (by kernel_rfl) (by kernel_rfl) (by kernel_rfl) (fun _ _ _ h => HQp.out _ _ _ _ h) (Or.inl ⟨by rfl, by intro w; go_simp⟩) ?_
      refine wpAny_at (listed' := (true::false::true::true::true::true::false::false::false::false::false::[]).toArray) (a' := { tmps := (A0::.pointer (some ⟨b1, 0, none⟩)::A2::A3::A4::A5::A6::.int .i64 (k : Int)::A8::A9::B0::B1::B2::B3::B4::B5::B6::B7::B8::B9::C0::C1::C2::C3::C4::C5::C6::C7::C8::C9::D0::D1::D2::D3::D4::D5::D6::D7::D8::D9::E0::E1::E2::E3::E4::E5::E6::E7::E8::E9::F0::F1::F2::F3::F4::F5::F6::F7::F8::F9::G0::G1::G2::G3::G4::G5::G6::G7::G8::G9::H0::H1::H2::H3::H4::H5::H6::H7::H8::H9::I0::I1::I2::I3::I4::I5::I6::.pointer (some ⟨b1, 0, none⟩)::I8::.pointer (some ⟨b1, 3, none⟩)::.slice (some ⟨kb, ko, none⟩) kn kc::.int .i64 (k : Int)::.pointer (some ⟨kb, ko + k, none⟩)::J3::J4::J5::J6::J7::J8::J9::K0::K1::K2::K3::K4::K5::K6::K7::K8::K9::L0::L1::L2::L3::L4::L5::L6::L7::L8::L9::M0::M1::M2::M3::M4::M5::M6::M7::M8::M9::N0::N1::N2::N3::N4::N5::[]).toArray, defers := [] }) (by kernel_rfl) (by kernel_rfl) ?_
      exact s3 W' hb
    ·
      go_simp
      refine hK _ _ ?_
      clear hK K
      refine wpAny_at (listed' := (true::false::true::false::true::false::false::false::false::true::false::[]).toArray) (a' := { tmps := (A0::.pointer (some ⟨b1, 0, none⟩)::A2::A3::A4::A5::A6::.int .i64 (k : Int)::.pointer (some ⟨W'.heap.size, 0, none⟩)::A9::B0::B1::B2::B3::B4::B5::B6::B7::B8::B9::C0::C1::C2::C3::C4::C5::C6::C7::C8::C9::D0::D1::D2::D3::D4::D5::D6::D7::D8::D9::E0::E1::E2::E3::E4::E5::E6::E7::E8::E9::F0::F1::F2::F3::F4::F5::F6::F7::F8::F9::G0::G1::G2::G3::G4::G5::G6::G7::G8::G9::H0::H1::H2::H3::H4::H5::H6::H7::H8::H9::I0::I1::I2::I3::I4::I5::I6::.pointer (some ⟨b1, 0, none⟩)::I8::.pointer (some ⟨b1, 3, none⟩)::J0::.int .i64 (k : Int)::J2::J3::J4::J5::J6::J7::J8::J9::K0::K1::K2::K3::K4::K5::K6::K7::K8::K9::L0::L1::L2::L3::L4::L5::L6::L7::L8::L9::M0::M1::M2::M3::M4::M5::M6::M7::M8::M9::N0::N1::N2::N3::N4::N5::[]).toArray, defers := [] }) (by kernel_rfl) (by kernel_rfl) ?_
      exact s9 _ (hb.alloc hb.size _) _ hb.size (Box.fresh W' 45 #[.int .i64 0, .int .i64 0, .int .i64 0, .int .i64 0])
  refine wp_region_any (by kernel_rfl) ?_
  change wpAny _ _ _ _ _ _ _ (World.drew _)
  rw [← hWd]
  refine wpAny_take (i := 0) (v := .pointer (some ⟨b1, 0, none⟩)) rfl (by kernel_rfl) (by kernel_rfl) (by kernel_rfl) (fun _ _ _ h => HQp.out _ _ _ _ h) (Or.inl ⟨by rfl, by intro w; go_simp⟩) ?_
  refine wpAny_take (i := 2) (v := .pointer (some ⟨b1, 3, none⟩)) rfl (by kernel_rfl) (by kernel_rfl) (by kernel_rfl) (fun _ _ _ h => HQp.out _ _ _ _ h) (Or.inl ⟨by rfl, by intro w; go_simp⟩) ?_
  refine wpAny_take (i := 4) (v := .int .i64 (k : Int)) rfl (by kernel_rfl) (by kernel_rfl) (by kernel_rfl) (fun _ _ _ h => HQp.out _ _ _ _ h) (Or.inl ⟨by rfl, by intro w; go_simp⟩) ?_
  refine wpAny_at (listed' := (true::false::true::false::true::false::false::false::false::false::false::[]).toArray) (a' := { tmps := (A0::.pointer (some ⟨b1, 0, none⟩)::A2::A3::A4::A5::A6::.int .i64 (k : Int)::A8::A9::B0::B1::B2::B3::B4::B5::B6::B7::B8::B9::C0::C1::C2::C3::C4::C5::C6::C7::C8::C9::D0::D1::D2::D3::D4::D5::D6::D7::D8::D9::E0::E1::E2::E3::E4::E5::E6::E7::E8::E9::F0::F1::F2::F3::F4::F5::F6::F7::F8::F9::G0::G1::G2::G3::G4::G5::G6::G7::G8::G9::H0::H1::H2::H3::H4::H5::H6::H7::H8::H9::I0::I1::I2::I3::I4::I5::I6::.pointer (some ⟨b1, 0, none⟩)::I8::.pointer (some ⟨b1, 3, none⟩)::J0::.int .i64 (k : Int)::J2::J3::J4::J5::J6::J7::J8::J9::K0::K1::K2::K3::K4::K5::K6::K7::K8::K9::L0::L1::L2::L3::L4::L5::L6::L7::L8::L9::M0::M1::M2::M3::M4::M5::M6::M7::M8::M9::N0::N1::N2::N3::N4::N5::[]).toArray, defers := [] }) (by kernel_rfl) (by kernel_rfl) ?_
  exact s W (Below.refl _ W)
end Go.Proofs.YtgpkdjhllekihaaGreatDoor.Ven
