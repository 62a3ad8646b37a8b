/- What venue.Norm holds while it walks the order of the seats. -/
import Derived.Test.YtdffleaokccgmaaGreatDoorVRegA
import Derived.Test.YtdffleaokccgmaaGreatDoorVRegB
import Derived.Test.YtdffleaokccgmaaGreatDoorVSorted
import Derived.Test.YtdffleaokccgmaaGreatDoorVZero
namespace Go.Proofs.YtdffleaokccgmaaGreatDoor.Ven
set_option linter.unusedVariables false
open Go.RowKit Go.Shelf

def pick (l : List Seat) (ord : List Nat) : List Seat := ord.map (fun i => l[i]!)
/-- Where, of the first 'k' of the order, the killed ones are. -/
def posOf (kills : List Int) (ord : List Nat) (k : Nat) : List Int := ((List.range k).filter (fun j => markB kills ord[j]!)).map (fun j : Nat => (j : Int))
def normU (V : Ven) (ord : List Nat) : Ven := ⟨pick V.seats ord, V.gap, V.radius, posOf V.kills ord V.seats.length, V.poles⟩
theorem posOf_zero (kills : List Int) (ord : List Nat) : posOf kills ord 0 = [] := rfl
theorem posOf_hit (kills : List Int) (ord : List Nat) (k : Nat) (h : markB kills ord[k]! = true) : posOf kills ord (k + 1) = posOf kills ord k ++ [(k : Int)] := by
  unfold posOf; rw [List.range_succ, List.filter_append, List.map_append]; simp only [List.filter_cons, h, if_true, List.filter_nil, List.map_cons, List.map_nil]
theorem posOf_miss (kills : List Int) (ord : List Nat) (k : Nat) (h : markB kills ord[k]! = false) : posOf kills ord (k + 1) = posOf kills ord k := by
  unfold posOf; rw [List.range_succ, List.filter_append, List.map_append]; simp only [List.filter_cons, h, if_false, List.filter_nil, List.map_nil, List.append_nil, Bool.false_eq_true]
theorem posOf_len (kills : List Int) (ord : List Nat) (k : Nat) : (posOf kills ord k).length ≤ k := by
  unfold posOf; rw [List.length_map]; exact Nat.le_trans (List.length_filter_le _ _) (by simp)
theorem IsOrder.length {l : List Seat} {ord : List Nat} (h : IsOrder l ord) : ord.length = l.length := by rw [h.perm.length_eq]; simp
theorem IsOrder.lt {l : List Seat} {ord : List Nat} (h : IsOrder l ord) (k : Nat) (hk : k < l.length) : ord[k]! < l.length := by
  have hk' : k < ord.length := by rw [h.length]; exact hk
  rw [getElem!_pos ord k hk']
  have := h.perm.mem_iff.1 (List.getElem_mem hk')
  simpa using this
theorem pick_take (l : List Seat) (ord : List Nat) (k : Nat) (hk : k < ord.length) : (pick l ord).take (k + 1) = (pick l ord).take k ++ [l[ord[k]!]!] := by
  have hk' : k < (pick l ord).length := by unfold pick; simpa using hk
  rw [List.take_succ_eq_append_getElem hk']
  have e : (pick l ord)[k] = l[ord[k]!]! := by
    rw [getElem!_pos ord k hk]; simp only [pick, List.getElem_map]
  rw [e]

structure NSt (w : World) (V : Ven) (ord : List Nat) (B1 B2 g og kg base : Nat) (vc : Array Value) (az : Option Addr) (cs : Nat) (ak : Option Addr) (m ck : Nat) (ap : Option Addr) (np cp ks kk : Nat) (wr : World) : Prop where
  below : Below w.heap.size w wr
  hbase : base ≤ wr.heap.size
  b1 : Box wr B1 33 vc
  b2 : Box wr B2 33 Zero5
  u : Box wr g 33 #[.slice az ks cs, .int .i64 V.gap, .int .i64 V.radius, .slice ak m ck, .slice ap np cp]
  ge : w.heap.size ≤ g
  gb1 : g ≠ B1
  gb2 : g ≠ B2
  gog : g ≠ og
  gkg : g ≠ kg
  so : wr.ownsRow base 54 4 (.slice az ks cs) ks (((pick V.seats ord).take ks).flatMap seatC)
  ko : wr.ownsRow base 3 1 (.slice ak m ck) m ((posOf V.kills ord kk).flatMap intC)
  ml : m = (posOf V.kills ord kk).length
  po : wr.ownsRow 0 82 3 (.slice ap np cp) V.poles.length (V.poles.flatMap poleC)
  orr : RowF wr og V.seats.length (fun j => .int .i64 ((ord[j]! : Nat) : Int))
  kr : RowF wr kg V.seats.length (fun j => .bool (markB V.kills j))
  ogl : og < base
  kgl : kg < base
theorem RowF.same {w w' : World} {g n : Nat} {f : Nat → Value} (h : RowF w g n f) (hs : w.heap.size ≤ w'.heap.size) (hh : w'.heap[g]? = w.heap[g]?) : RowF w' g n f :=
  ⟨Nat.lt_of_lt_of_le h.1 hs, fun j hj => ⟨by rw [World.cell?_of_block (w := w) (a := ⟨g, j, none⟩) hh]; exact (h.2 j hj).1, by rw [World.frozen?_of_block (w := w) (a := ⟨g, j, none⟩) hh]; exact (h.2 j hj).2⟩⟩
variable {w : World} {V : Ven} {ord : List Nat} {B1 B2 g og kg base : Nat} {vc : Array Value} {az : Option Addr} {cs : Nat} {ak : Option Addr} {m ck : Nat} {ap : Option Addr} {np cp ks kk : Nat} {wr : World}
theorem NSt.next (h : NSt w V ord B1 B2 g og kg base vc az cs ak m ck ap np cp ks kk wr) {w' : World} (hb : Below wr.heap.size wr w') : NSt w V ord B1 B2 g og kg base vc az cs ak m ck ap np cp ks kk w' :=
  { below := h.below.trans (hb.mono h.below.size), hbase := Nat.le_trans h.hbase hb.size, b1 := h.b1.next hb, b2 := h.b2.next hb, u := h.u.next hb, ge := h.ge, gb1 := h.gb1, gb2 := h.gb2, gog := h.gog, gkg := h.gkg,
    so := row_next h.so hb, ko := row_next h.ko hb, ml := h.ml, po := row_next h.po hb, orr := h.orr.next hb, kr := h.kr.next hb, ogl := h.ogl, kgl := h.kgl }
/-- A seat more. -/
theorem NSt.seat (h : NSt w V ord B1 B2 g og kg base vc az cs ak m ck ap np cp ks kk wr) (hks : ks < ord.length) {w2 : World} {az2 : Option Addr} {cs2 : Nat} (s : Seat) (hs : V.seats[ord[ks]!]! = s)
    (hown : w2.ownsRow base 54 4 (.slice az2 (ks + 1) cs2) (ks + 1) (((pick V.seats ord).take ks).flatMap seatC ++ seatC s)) (hgr : wr.grownBy w2 (Value.slice az ks cs).ownBlock) (hw : w.heap.size ≤ base) :
    NSt w V ord B1 B2 g og kg base vc az2 cs2 ak m ck ap np cp (ks + 1) kk (w2.setCell ⟨g, 0, none⟩ (.slice az2 (ks + 1) cs2)) := by
  have hu2 := h.u.grown hgr (h.u.not_row (by decide) h.so)
  have hb2 : Below w.heap.size w w2 := by
    refine h.below.grown hgr h.below.size ?_
    intro k hk
    rcases Nat.lt_or_ge k w.heap.size with hlt | hge
    · exact absurd hk.symm (row_low h.so (Nat.lt_of_lt_of_le hlt hw))
    · exact hge
  have hsz : wr.heap.size ≤ w2.heap.size := hgr.size
  exact {
    below := Below.setCell hb2 h.ge _
    hbase := by simpa using Nat.le_trans h.hbase hsz
    b1 := (h.b1.grown hgr (h.b1.not_row (by decide) h.so)).other g 0 h.gb1.symm _
    b2 := (h.b2.grown hgr (h.b2.not_row (by decide) h.so)).other g 0 h.gb2.symm _
    u := hu2.set 0 _
    ge := h.ge, gb1 := h.gb1, gb2 := h.gb2, gog := h.gog, gkg := h.gkg
    so := by
      rw [pick_take V.seats ord ks hks, hs, List.flatMap_append]
      have := row_setCell hown hu2 (by decide) 0 (.slice az2 (ks + 1) cs2)
      simpa using this
    ko := row_setCell (row_grown h.ko h.so (by decide) hgr) hu2 (by decide) 0 _
    ml := h.ml
    po := row_setCell (row_grown h.po h.so (by decide) hgr) hu2 (by decide) 0 _
    orr := (h.orr.same hsz (hgr.block og h.orr.1 (row_low h.so h.ogl))).same (by simp) (Below.heap_setCell w2 _ _ og h.gog.symm)
    kr := (h.kr.same hsz (hgr.block kg h.kr.1 (row_low h.so h.kgl))).same (by simp) (Below.heap_setCell w2 _ _ kg h.gkg.symm)
    ogl := h.ogl, kgl := h.kgl }
/-- A kill more. -/
theorem NSt.kill (h : NSt w V ord B1 B2 g og kg base vc az cs ak m ck ap np cp ks kk wr) {w2 : World} {ak2 : Option Addr} {ck2 : Nat} (hhit : markB V.kills ord[kk]! = true)
    (hown : w2.ownsRow base 3 1 (.slice ak2 (m + 1) ck2) (m + 1) ((posOf V.kills ord kk).flatMap intC ++ [.int .i64 (kk : Int)])) (hgr : wr.grownBy w2 (Value.slice ak m ck).ownBlock) (hw : w.heap.size ≤ base) :
    NSt w V ord B1 B2 g og kg base vc az cs ak2 (m + 1) ck2 ap np cp ks (kk + 1) (w2.setCell ⟨g, 3, none⟩ (.slice ak2 (m + 1) ck2)) := by
  have hu2 := h.u.grown hgr (h.u.not_row (by decide) h.ko)
  have hb2 : Below w.heap.size w w2 := by
    refine h.below.grown hgr h.below.size ?_
    intro k hk
    rcases Nat.lt_or_ge k w.heap.size with hlt | hge
    · exact absurd hk.symm (row_low h.ko (Nat.lt_of_lt_of_le hlt hw))
    · exact hge
  have hsz : wr.heap.size ≤ w2.heap.size := hgr.size
  exact {
    below := Below.setCell hb2 h.ge _
    hbase := by simpa using Nat.le_trans h.hbase hsz
    b1 := (h.b1.grown hgr (h.b1.not_row (by decide) h.ko)).other g 3 h.gb1.symm _
    b2 := (h.b2.grown hgr (h.b2.not_row (by decide) h.ko)).other g 3 h.gb2.symm _
    u := hu2.set 3 _
    ge := h.ge, gb1 := h.gb1, gb2 := h.gb2, gog := h.gog, gkg := h.gkg
    so := row_setCell (row_grown h.so h.ko (by decide) hgr) hu2 (by decide) 3 _
    ko := by
      rw [posOf_hit V.kills ord kk hhit, List.flatMap_append]
      have := row_setCell hown hu2 (by decide) 3 (.slice ak2 (m + 1) ck2)
      simpa [intC] using this
    ml := by rw [posOf_hit V.kills ord kk hhit, List.length_append, ← h.ml]; rfl
    po := row_setCell (row_grown h.po h.ko (by decide) hgr) hu2 (by decide) 3 _
    orr := (h.orr.same hsz (hgr.block og h.orr.1 (row_low h.ko h.ogl))).same (by simp) (Below.heap_setCell w2 _ _ og h.gog.symm)
    kr := (h.kr.same hsz (hgr.block kg h.kr.1 (row_low h.ko h.kgl))).same (by simp) (Below.heap_setCell w2 _ _ kg h.gkg.symm)
    ogl := h.ogl, kgl := h.kgl }
/-- No kill. -/
theorem NSt.miss (h : NSt w V ord B1 B2 g og kg base vc az cs ak m ck ap np cp ks kk wr) (hm : markB V.kills ord[kk]! = false) : NSt w V ord B1 B2 g og kg base vc az cs ak m ck ap np cp ks (kk + 1) wr :=
  { h with ko := by rw [posOf_miss V.kills ord kk hm]; exact h.ko, ml := by rw [posOf_miss V.kills ord kk hm]; exact h.ml }
/-- At the end the box holds the venue in that order. -/
theorem NSt.ven (h : NSt w V ord B1 B2 g og kg base vc az cs ak m ck ap np cp ks kk wr) (hks : ks = V.seats.length) (hkk : kk = V.seats.length) (ho : IsOrder V.seats ord) : VenAt wr az ks cs ak m ck ap np cp (normU V ord) := by
  have hl : (pick V.seats ord).length = V.seats.length := by unfold pick; rw [List.length_map, ho.length]
  refine ⟨?_, ?_, ?_⟩
  · have := h.so
    rw [List.take_of_length_le (by omega)] at this
    exact row_sl seatC_len (l := pick V.seats ord) (by rw [hl, ← hks]; exact this)
  · have := h.ko
    rw [hkk] at this
    have hml := h.ml
    rw [hkk] at hml
    exact row_sl intC_len (l := posOf V.kills ord V.seats.length) (by rw [← hml]; exact this)
  · exact row_sl poleC_len h.po
end Go.Proofs.YtdffleaokccgmaaGreatDoor.Ven
