/- What package parse's hall holds in memory: its box, its rows, its map; (*hall).add where a kill is told; A pole, a seat of three numbers that a line tells: the statements of parse's add and addSeat that make them. -/
import Derived.Test.YtpkjhlcolgoknaaGreatDoorZae
import Derived.Test.YtpkjhlcolgoknaaGreatDoorVQuiet
import Derived.Deep.RegionLaw
import Derived.Test.YtpkjhlcolgoknaaGreatDoorVInv
namespace Go.Proofs.YtpkjhlcolgoknaaGreatDoor.Par
set_option linter.unusedVariables false
set_option maxRecDepth 100000
open Go.RowKit Go.Shelf Go.Maps
open Go.Proofs.YtpkjhlcolgoknaaGreatDoor.Ven (Seat Pole Ven seatC poleC intC Box row_next row_same row_grown row_setCell row_low rows_apart row_slice)
open Go.Proofs.YtpkjhlcolgoknaaGreatDoor.Prs (atI)

/-- A fact in memory: the line's tokens, and the block and room of their row. -/
structure Fact where
  word : T
  rest : List T
  g : Nat
  cap : Nat
def factC (f : Fact) : List Value := [.int .i64 f.word.1, .int .i64 f.word.2.1, .int .i64 f.word.2.2.1, .int .i64 f.word.2.2.2.1, .string ⟨f.word.2.2.2.2.toArray⟩, .slice (restA f.g f.cap) f.rest.length (f.cap - 1)]
theorem factC_len (f : Fact) : (factC f).length = 6 := rfl
/-- The row of a line's tokens. -/
def LineRow (w : World) (f : Fact) : Prop := w.ownsRow 0 71 5 (.slice (some ⟨f.g, 0, none⟩) (f.rest.length + 1) f.cap) (f.rest.length + 1) ((f.word :: f.rest).flatMap Tok.tokC)
structure FactIs (w : World) (f : Fact) (k : Kill) : Prop where
  row : LineRow w f
  two : f.rest.length = 2
  kill : k = ⟨nOf f.rest 0, nOf f.rest 1, spotT f.word, spotT (f.rest[0]!)⟩
  wr : W64 k.row
  wx : W64 k.x
def hallT : List TypeId := [102, 57, 3, 85, 133]
/-- Of what was there only the hall's own blocks may have turned: those from 'base' on that are of its types, or maps. -/
structure OwnH (base : Nat) (W W' : World) : Prop where
  os : W'.os = W.os
  tape : W'.tape = W.tape
  output : W'.output = W.output
  size : W.heap.size ≤ W'.heap.size
  low : ∀ k, k < W.heap.size → k < base → W'.heap[k]? = W.heap[k]?
  block : ∀ (k : Nat) (cs : Array Value) (t : TypeId) (z : Nat × Nat), W.heap[k]? = some (Obj.cells cs t z) → t ∉ hallT → W'.heap[k]? = W.heap[k]?
theorem OwnH.refl (base : Nat) (W : World) : OwnH base W W := ⟨rfl, rfl, rfl, Nat.le_refl _, fun _ _ _ => rfl, fun _ _ _ _ _ _ => rfl⟩
theorem OwnH.trans {base : Nat} {W W' W'' : World} (h : OwnH base W W') (h' : OwnH base W' W'') : OwnH base W W'' :=
  ⟨h'.os.trans h.os, h'.tape.trans h.tape, h'.output.trans h.output, Nat.le_trans h.size h'.size, fun k hk hb => (h'.low k (Nat.lt_of_lt_of_le hk h.size) hb).trans (h.low k hk hb),
    fun k cs t z hk ht => (h'.block k cs t z ((h.block k cs t z hk ht).trans hk) ht).trans (h.block k cs t z hk ht)⟩
theorem OwnH.of_below {base : Nat} {W W' : World} (h : Below W.heap.size W W') : OwnH base W W' :=
  ⟨h.os, h.tape, h.output, h.size, fun k hk _ => h.block k hk, fun k cs t z hk _ => h.block k (Array.getElem?_eq_some_iff.1 hk).1⟩
theorem OwnH.below {base : Nat} {W W' : World} (h : OwnH base W W') (hb : base ≤ W.heap.size) : Below base W W' :=
  { os := h.os, tape := h.tape, output := h.output, size := h.size, block := fun k hk => h.low k (Nat.lt_of_lt_of_le hk hb) hk }
/-- A row of one of the hall's types grows. -/
theorem OwnH.of_grown {base : Nat} {W W' : World} {e : TypeId} {size : Nat} {v : Value} {n : Nat} {xs : List Value} (hr : W.ownsRow base e size v n xs) (he : e ∈ hallT) (hg : W.grownBy W' v.ownBlock) : OwnH base W W' := by
  refine ⟨hg.os, hg.tape, hg.output, hg.size, fun k hk hb => hg.block k hk (row_low hr hb), fun k cs t z hk ht => ?_⟩
  refine hg.block k (Array.getElem?_eq_some_iff.1 hk).1 fun hc => ?_
  rcases hr.2 with ⟨hv, _⟩ | ⟨g', cap, cur, hv, _, hb, _⟩
  · subst hv; cases hc
  · subst hv
    simp [Value.ownBlock] at hc
    subst hc
    rw [hk] at hb
    injection hb with hb; injection hb with _ hb _
    exact ht (hb ▸ he)
/-- A cell of a box of one of the hall's types is set. -/
theorem OwnH.of_set {base : Nat} {W : World} {g : Nat} {e : TypeId} {cs : Array Value} (hB : Box W g e cs) (he : e ∈ hallT) (hge : base ≤ g) (i : Nat) (v : Value) : OwnH base W (W.setCell ⟨g, i, none⟩ v) := by
  refine ⟨rfl, rfl, rfl, by simp, fun k hk hb => Below.heap_setCell W _ v k (by show k ≠ g; omega), fun k cs' t z hk ht => Below.heap_setCell W _ v k fun hc => ?_⟩
  have hc' : k = g := hc
  subst hc'
  unfold Box at hB
  rw [hk] at hB
  injection hB with hB; injection hB with _ hB _
  exact ht (hB ▸ he)
/-- A map is turned. -/
theorem OwnH.of_map {base : Nat} {W W' : World} {b n : Nat} {k : TypeId} {R : Value → Option (DataW Unit × List MemPlace)} {D : DataW Unit} (hm : W.ownsMap Tryz.prog k R b n D) (hge : base ≤ b) (hg : W.grownBy W' (some b)) : OwnH base W W' := by
  refine ⟨hg.os, hg.tape, hg.output, hg.size, fun j hj hb => hg.block j hj (by intro hc; injection hc with hc; omega), fun j cs t z hj ht => hg.block j (Array.getElem?_eq_some_iff.1 hj).1 fun hc => ?_⟩
  injection hc with hc
  subst hc
  obtain ⟨es, clock, h1, _⟩ := hm
  rw [hj] at h1
  cases h1
theorem OwnH.row {base base' : Nat} {W W' : World} (h : OwnH base W W') {e : TypeId} {size : Nat} {v : Value} {n : Nat} {xs : List Value} (hr : W.ownsRow base' e size v n xs) (he : e ∉ hallT) : W'.ownsRow base' e size v n xs := by
  refine row_same hr fun g hg hv => ?_
  rcases hr.2 with ⟨hv', _⟩ | ⟨g', cap, cur, hv', _, hb, _⟩
  · subst hv'; cases hv
  · subst hv'
    simp [Value.ownBlock] at hv
    subst hv
    exact h.block _ _ _ _ hb he
theorem OwnH.box {base : Nat} {W W' : World} (h : OwnH base W W') {g : Nat} {e : TypeId} {cs : Array Value} (hB : Box W g e cs) (he : e ∉ hallT) : Box W' g e cs := hB.same (h.block _ _ _ _ hB he)
theorem FactIs.own {base : Nat} {W W' : World} (h : OwnH base W W') {f : Fact} {k : Kill} (hf : FactIs W f k) : FactIs W' f k := { hf with row := h.row hf.row (by decide) }
/-- Boxes of facts are as they were, but for one block. -/
def Keeps (fk : Option Nat) (W W' : World) : Prop := ∀ g cs, Box W g 133 cs → some g ≠ fk → Box W' g 133 cs
theorem Keeps.trans {fk : Option Nat} {W W' W'' : World} (h : Keeps fk W W') (h' : Keeps fk W' W'') : Keeps fk W W'' := fun g cs hB hne => h' g cs (h g cs hB hne) hne
theorem Keeps.of_below {fk : Option Nat} {W W' : World} (h : Below W.heap.size W W') : Keeps fk W W' := fun g cs hB _ => hB.next h
theorem Keeps.of_row {fk : Option Nat} {W W' : World} {base : Nat} {e : TypeId} {size : Nat} {v : Value} {n : Nat} {xs : List Value} (hr : W.ownsRow base e size v n xs) (he : 133 ≠ e) (hg : W.grownBy W' v.ownBlock) : Keeps fk W W' := fun g cs hB _ => hB.grown hg (hB.not_row he hr)
theorem Keeps.of_own {W W' : World} {fk : Option Nat} (hg : W.grownBy W' fk) : Keeps fk W W' := fun g cs hB hne => hB.grown hg hne
theorem Keeps.of_set {fk : Option Nat} {W : World} {b : Nat} {e : TypeId} {bs : Array Value} (hX : Box W b e bs) (he : 133 ≠ e) (i : Nat) (v : Value) : Keeps fk W (W.setCell ⟨b, i, none⟩ v) := fun g cs hB _ => hB.other b i (fun hc => by
  subst hc
  unfold Box at hB hX
  rw [hB] at hX
  exact he (by injection hX with hX; injection hX)) v
theorem Keeps.of_map {fk : Option Nat} {W W' : World} {b n : Nat} {k : TypeId} {R : Value → Option (DataW Unit × List MemPlace)} {D : DataW Unit} (hm : W.ownsMap Tryz.prog k R b n D) (hg : W.grownBy W' (some b)) : Keeps fk W W' := fun g cs hB _ => hB.grown hg (fun hc => by
  injection hc with hc
  subst hc
  obtain ⟨es, clock, h1, _⟩ := hm
  unfold Box at hB
  rw [hB] at h1; cases h1)
structure Hall (wr : World) (base hb : Nat) (az : Option Addr) (cs : Nat) (ak : Option Addr) (ck : Nat) (ap : Option Addr) (cp mb : Nat) (af : Option Addr) (cf : Nat) (s : St) (K : List Int) (fs : List Fact) : Prop where
  hbase : base ≤ wr.heap.size
  ge : base ≤ hb
  mge : base ≤ mb
  box : Box wr hb 102 #[.slice az s.seats.length cs, .int .i64 s.gap, .int .i64 s.radius, .slice ak K.length ck, .slice ap s.poles.length cp, .map (some mb), .slice af s.kills.length cf, .bool s.hasR]
  so : wr.ownsRow base 57 4 (.slice az s.seats.length cs) s.seats.length (s.seats.flatMap seatC)
  ko : wr.ownsRow base 3 1 (.slice ak K.length ck) K.length (K.flatMap intC)
  po : wr.ownsRow base 85 3 (.slice ap s.poles.length cp) s.poles.length (s.poles.flatMap poleC)
  fo : wr.ownsRow base 133 6 (.slice af s.kills.length cf) s.kills.length (fs.flatMap factC)
  fl : fs.length = s.kills.length
  ft : ∀ i (hi : i < fs.length), FactIs wr fs[i] (s.kills[i]'(fl ▸ hi))
  map : ∃ D n, wr.ownsMap Tryz.prog 178 (plainElem Tryz.prog 3) mb n D ∧ n ≤ s.seats.length ∧ MapOf D s.seats
  ls : s.seats.length ≤ 4096
  lp : s.poles.length ≤ 200
  lk : s.kills.length ≤ 200
  lK : K.length ≤ 200
variable {wr : World} {base hb : Nat} {az : Option Addr} {cs : Nat} {ak : Option Addr} {ck : Nat} {ap : Option Addr} {cp mb : Nat} {af : Option Addr} {cf : Nat} {s : St} {K : List Int} {fs : List Fact}
theorem map_box {n : Nat} {k : TypeId} {R : Value → Option (DataW Unit × List MemPlace)} {D : DataW Unit} {g : Nat} {e : TypeId} {cs : Array Value} (hm : wr.ownsMap Tryz.prog k R mb n D) (hB : Box wr g e cs) : mb ≠ g := by
  intro hc
  subst hc
  obtain ⟨es, clock, h1, _⟩ := hm
  unfold Box at hB
  rw [hB] at h1; cases h1
theorem map_row {n m : Nat} {k : TypeId} {R : Value → Option (DataW Unit × List MemPlace)} {D : DataW Unit} {base' : Nat} {e : TypeId} {size : Nat} {v : Value} {xs : List Value} (hm : wr.ownsMap Tryz.prog k R mb n D) (hr : wr.ownsRow base' e size v m xs) : some mb ≠ v.ownBlock := by
  intro hc
  obtain ⟨es, clock, h1, _⟩ := hm
  rcases hr.2 with ⟨hv, _⟩ | ⟨g', cap, cur, hv, _, hb, _⟩
  · subst hv; cases hc
  · subst hv
    simp [Value.ownBlock] at hc
    subst hc
    rw [h1] at hb; cases hb
theorem Hall.next (h : Hall wr base hb az cs ak ck ap cp mb af cf s K fs) {w' : World} (hB : Below wr.heap.size wr w') : Hall w' base hb az cs ak ck ap cp mb af cf s K fs :=
  { hbase := Nat.le_trans h.hbase hB.size, ge := h.ge, mge := h.mge, box := h.box.next hB, so := row_next h.so hB, ko := row_next h.ko hB, po := row_next h.po hB, fo := row_next h.fo hB, fl := h.fl,
    ft := fun i hi => (h.ft i hi).own (OwnH.of_below (base := 0) hB),
    map := by
      obtain ⟨D, n, hm, h1, h2⟩ := h.map
      exact ⟨D, n, hm.kept (row := none) ⟨hB.os, hB.tape, hB.output, hB.size, fun k hk _ => hB.block k hk⟩ (by simp), h1, h2⟩
    ls := h.ls, lp := h.lp, lk := h.lk, lK := h.lK }
/-- A pole more. -/
theorem Hall.pole (h : Hall wr base hb az cs ak ck ap cp mb af cf s K fs) {w2 : World} {ap2 : Option Addr} {cp2 : Nat} (p : Pole) (hlt : s.poles.length < 200)
    (hown : w2.ownsRow base 85 3 (.slice ap2 (s.poles.length + 1) cp2) (s.poles.length + 1) (s.poles.flatMap poleC ++ poleC p)) (hgr : wr.grownBy w2 (Value.slice ap s.poles.length cp).ownBlock) :
    Hall (w2.setCell ⟨hb, 4, none⟩ (.slice ap2 (s.poles.length + 1) cp2)) base hb az cs ak ck ap2 cp2 mb af cf { s with poles := s.poles ++ [p] } K fs ∧ OwnH base wr (w2.setCell ⟨hb, 4, none⟩ (.slice ap2 (s.poles.length + 1) cp2)) := by
  have hu2 := h.box.grown hgr (h.box.not_row (by decide) h.po)
  have ho1 : OwnH base wr w2 := OwnH.of_grown h.po (by decide) hgr
  have ho2 : OwnH base w2 (w2.setCell ⟨hb, 4, none⟩ (.slice ap2 (s.poles.length + 1) cp2)) := OwnH.of_set hu2 (by decide) h.ge 4 _
  have ho := ho1.trans ho2
  refine ⟨?_, ho⟩
  obtain ⟨D, n, hm, h1, h2⟩ := h.map
  have hm2 := hm.kept hgr (map_row hm h.po)
  exact { hbase := Nat.le_trans h.hbase ho.size, ge := h.ge, mge := h.mge
          box := by
            have := hu2.set 4 (.slice ap2 (s.poles.length + 1) cp2)
            simpa using this
          so := row_setCell (row_grown h.so h.po (by decide) hgr) hu2 (by decide) 4 _
          ko := row_setCell (row_grown h.ko h.po (by decide) hgr) hu2 (by decide) 4 _
          po := by
            have := row_setCell hown hu2 (by decide) 4 (.slice ap2 (s.poles.length + 1) cp2)
            simpa using this
          fo := row_setCell (row_grown h.fo h.po (by decide) hgr) hu2 (by decide) 4 _
          fl := h.fl, ft := fun i hi => (h.ft i hi).own ho
          map := ⟨D, n, hm2.setCell (map_box hm2 hu2) _, h1, h2⟩
          ls := h.ls, lp := by simp; omega, lk := h.lk, lK := h.lK }
/-- A seat more: its number goes into the map first. -/
theorem Hall.place (h : Hall wr base hb az cs ak ck ap cp mb af cf s K fs) {w1 : World} {D : DataW Unit} {n : Nat} (hm : wr.ownsMap Tryz.prog 178 (plainElem Tryz.prog 3) mb n D) (hgr : wr.grownBy w1 (some mb)) :
    OwnH base wr w1 ∧ Box w1 hb 102 #[.slice az s.seats.length cs, .int .i64 s.gap, .int .i64 s.radius, .slice ak K.length ck, .slice ap s.poles.length cp, .map (some mb), .slice af s.kills.length cf, .bool s.hasR] ∧
    w1.ownsRow base 57 4 (.slice az s.seats.length cs) s.seats.length (s.seats.flatMap seatC) ∧ w1.ownsRow base 3 1 (.slice ak K.length ck) K.length (K.flatMap intC) ∧
    w1.ownsRow base 85 3 (.slice ap s.poles.length cp) s.poles.length (s.poles.flatMap poleC) ∧ w1.ownsRow base 133 6 (.slice af s.kills.length cf) s.kills.length (fs.flatMap factC) := by
  have hrow : ∀ {base' : Nat} {e : TypeId} {size : Nat} {v : Value} {m : Nat} {xs : List Value}, wr.ownsRow base' e size v m xs → w1.ownsRow base' e size v m xs := fun hr => row_same hr fun g hg hv => hgr.block g hg fun hc => map_row hm hr (by rw [hv, hc])
  exact ⟨OwnH.of_map hm h.mge hgr, h.box.grown hgr (fun hc => map_box hm h.box (by injection hc with hc; exact hc.symm)), hrow h.so, hrow h.ko, hrow h.po, hrow h.fo⟩
theorem Hall.seat (h : Hall wr base hb az cs ak ck ap cp mb af cf s K fs) {w1 w2 : World} {D : DataW Unit} {n : Nat} {az2 : Option Addr} {cs2 : Nat} (st : Seat) (hlt : s.seats.length < 4096) (hn : n ≤ s.seats.length)
    (hm : wr.ownsMap Tryz.prog 178 (plainElem Tryz.prog 3) mb n D) (hg1 : wr.grownBy w1 (some mb)) {D1 : DataW Unit} (hm1 : w1.ownsMap Tryz.prog 178 (plainElem Tryz.prog 3) mb (n + 1) D1) (hD : MapOf D1 (s.seats ++ [st]))
    {w1' : World} (hb1 : Below w1.heap.size w1 w1')
    (hown : w2.ownsRow base 57 4 (.slice az2 (s.seats.length + 1) cs2) (s.seats.length + 1) (s.seats.flatMap seatC ++ seatC st)) (hgr : w1'.grownBy w2 (Value.slice az s.seats.length cs).ownBlock) :
    Hall (w2.setCell ⟨hb, 0, none⟩ (.slice az2 (s.seats.length + 1) cs2)) base hb az2 cs2 ak ck ap cp mb af cf { s with seats := s.seats ++ [st] } K fs ∧ OwnH base wr (w2.setCell ⟨hb, 0, none⟩ (.slice az2 (s.seats.length + 1) cs2)) := by
  obtain ⟨o1, b1, so1, ko1, po1, fo1⟩ := h.place hm hg1
  have b1' := b1.next hb1
  have so1' := row_next so1 hb1
  have hu2 := b1'.grown hgr (b1'.not_row (by decide) so1')
  have o2 : OwnH base w1' w2 := OwnH.of_grown so1' (by decide) hgr
  have o3 : OwnH base w2 (w2.setCell ⟨hb, 0, none⟩ (.slice az2 (s.seats.length + 1) cs2)) := OwnH.of_set hu2 (by decide) h.ge 0 _
  have ho := ((o1.trans (OwnH.of_below hb1)).trans o2).trans o3
  refine ⟨?_, ho⟩
  have hm1' := hm1.kept (row := none) ⟨hb1.os, hb1.tape, hb1.output, hb1.size, fun k hk _ => hb1.block k hk⟩ (by simp)
  have hm2 := hm1'.kept hgr (map_row hm1' so1')
  exact { hbase := Nat.le_trans h.hbase ho.size, ge := h.ge, mge := h.mge
          box := by
            have := hu2.set 0 (.slice az2 (s.seats.length + 1) cs2)
            simpa using this
          so := by
            have := row_setCell hown hu2 (by decide) 0 (.slice az2 (s.seats.length + 1) cs2)
            simpa using this
          ko := row_setCell (row_grown (row_next ko1 hb1) so1' (by decide) hgr) hu2 (by decide) 0 _
          po := row_setCell (row_grown (row_next po1 hb1) so1' (by decide) hgr) hu2 (by decide) 0 _
          fo := row_setCell (row_grown (row_next fo1 hb1) so1' (by decide) hgr) hu2 (by decide) 0 _
          fl := h.fl, ft := fun i hi => (h.ft i hi).own ho
          map := ⟨D1, n + 1, hm2.setCell (map_box hm2 hu2) _, by simp; omega, hD⟩
          ls := by simp; omega, lp := h.lp, lk := h.lk, lK := h.lK }
/-- A kill that was told. -/
theorem Hall.killed (h : Hall wr base hb az cs ak ck ap cp mb af cf s K fs) {w2 : World} {af2 : Option Addr} {cf2 : Nat} (f : Fact) (k : Kill) (hf : FactIs wr f k) (hlt : s.kills.length < 200)
    (hown : w2.ownsRow base 133 6 (.slice af2 (s.kills.length + 1) cf2) (s.kills.length + 1) (fs.flatMap factC ++ factC f)) (hgr : wr.grownBy w2 (Value.slice af s.kills.length cf).ownBlock) :
    Hall (w2.setCell ⟨hb, 6, none⟩ (.slice af2 (s.kills.length + 1) cf2)) base hb az cs ak ck ap cp mb af2 cf2 { s with kills := s.kills ++ [k] } K (fs ++ [f]) ∧ OwnH base wr (w2.setCell ⟨hb, 6, none⟩ (.slice af2 (s.kills.length + 1) cf2)) := by
  have hu2 := h.box.grown hgr (h.box.not_row (by decide) h.fo)
  have ho1 : OwnH base wr w2 := OwnH.of_grown h.fo (by decide) hgr
  have ho2 : OwnH base w2 (w2.setCell ⟨hb, 6, none⟩ (.slice af2 (s.kills.length + 1) cf2)) := OwnH.of_set hu2 (by decide) h.ge 6 _
  have ho := ho1.trans ho2
  refine ⟨?_, ho⟩
  obtain ⟨D, n, hm, h1, h2⟩ := h.map
  have hm2 := hm.kept hgr (map_row hm h.fo)
  have hfl := h.fl
  exact { hbase := Nat.le_trans h.hbase ho.size, ge := h.ge, mge := h.mge
          box := by
            have := hu2.set 6 (.slice af2 (s.kills.length + 1) cf2)
            simpa using this
          so := row_setCell (row_grown h.so h.fo (by decide) hgr) hu2 (by decide) 6 _
          ko := row_setCell (row_grown h.ko h.fo (by decide) hgr) hu2 (by decide) 6 _
          po := row_setCell (row_grown h.po h.fo (by decide) hgr) hu2 (by decide) 6 _
          fo := by
            have := row_setCell hown hu2 (by decide) 6 (.slice af2 (s.kills.length + 1) cf2)
            simpa using this
          fl := by simp [hfl]
          ft := fun i hi => by
            rcases Nat.lt_or_ge i fs.length with hlt' | hge
            · have hk' : i < s.kills.length := by omega
              have := (h.ft i hlt').own ho
              simpa [List.getElem_append, hlt', hk'] using this
            · have e : i = fs.length := by simp at hi; omega
              subst e
              have := hf.own ho
              simpa [List.getElem_append, hfl] using this
          map := ⟨D, n, hm2.setCell (map_box hm2 hu2) _, h1, h2⟩
          ls := h.ls, lp := h.lp, lk := by simp; omega, lK := h.lK }
/-- One that is killed. -/
theorem Hall.dead (h : Hall wr base hb az cs ak ck ap cp mb af cf s K fs) {w2 : World} {ak2 : Option Addr} {ck2 : Nat} (k : Int) (hlt : K.length < 200)
    (hown : w2.ownsRow base 3 1 (.slice ak2 (K.length + 1) ck2) (K.length + 1) (K.flatMap intC ++ [.int .i64 k])) (hgr : wr.grownBy w2 (Value.slice ak K.length ck).ownBlock) :
    Hall (w2.setCell ⟨hb, 3, none⟩ (.slice ak2 (K.length + 1) ck2)) base hb az cs ak2 ck2 ap cp mb af cf s (K ++ [k]) fs ∧ OwnH base wr (w2.setCell ⟨hb, 3, none⟩ (.slice ak2 (K.length + 1) ck2)) := by
  have hu2 := h.box.grown hgr (h.box.not_row (by decide) h.ko)
  have ho1 : OwnH base wr w2 := OwnH.of_grown h.ko (by decide) hgr
  have ho2 : OwnH base w2 (w2.setCell ⟨hb, 3, none⟩ (.slice ak2 (K.length + 1) ck2)) := OwnH.of_set hu2 (by decide) h.ge 3 _
  have ho := ho1.trans ho2
  refine ⟨?_, ho⟩
  obtain ⟨D, n, hm, h1, h2⟩ := h.map
  have hm2 := hm.kept hgr (map_row hm h.ko)
  exact { hbase := Nat.le_trans h.hbase ho.size, ge := h.ge, mge := h.mge
          box := by
            have := hu2.set 3 (.slice ak2 (K.length + 1) ck2)
            simpa using this
          so := row_setCell (row_grown h.so h.ko (by decide) hgr) hu2 (by decide) 3 _
          ko := by
            have := row_setCell hown hu2 (by decide) 3 (.slice ak2 (K.length + 1) ck2)
            simpa [intC] using this
          po := row_setCell (row_grown h.po h.ko (by decide) hgr) hu2 (by decide) 3 _
          fo := row_setCell (row_grown h.fo h.ko (by decide) hgr) hu2 (by decide) 3 _
          fl := h.fl, ft := fun i hi => (h.ft i hi).own ho
          map := ⟨D, n, hm2.setCell (map_box hm2 hu2) _, h1, h2⟩
          ls := h.ls, lp := h.lp, lk := h.lk, lK := by simp; omega }
/-- A number of the hall's own box is set. -/
theorem Hall.put (h : Hall wr base hb az cs ak ck ap cp mb af cf s K fs) (i : Nat) (v : Value) (s' : St) (hs : s'.seats = s.seats) (hp : s'.poles = s.poles) (hk : s'.kills = s.kills)
    (hc : (#[.slice az s.seats.length cs, .int .i64 s.gap, .int .i64 s.radius, .slice ak K.length ck, .slice ap s.poles.length cp, .map (some mb), .slice af s.kills.length cf, .bool s.hasR] : Array Value).setIfInBounds i v = #[.slice az s'.seats.length cs, .int .i64 s'.gap, .int .i64 s'.radius, .slice ak K.length ck, .slice ap s'.poles.length cp, .map (some mb), .slice af s'.kills.length cf, .bool s'.hasR]) :
    Hall (wr.setCell ⟨hb, i, none⟩ v) base hb az cs ak ck ap cp mb af cf s' K fs ∧ OwnH base wr (wr.setCell ⟨hb, i, none⟩ v) := by
  have ho : OwnH base wr (wr.setCell ⟨hb, i, none⟩ v) := OwnH.of_set h.box (by decide) h.ge i v
  refine ⟨?_, ho⟩
  obtain ⟨D, n, hm, h1, h2⟩ := h.map
  have hbx := h.box.set i v
  rw [hc] at hbx
  have hft : ∀ j (hj : j < fs.length), FactIs (wr.setCell ⟨hb, i, none⟩ v) fs[j] (s.kills[j]'(h.fl ▸ hj)) := fun j hj => (h.ft j hj).own ho
  exact { hbase := by simpa using h.hbase, ge := h.ge, mge := h.mge, box := hbx
          so := by rw [hs]; exact row_setCell h.so h.box (by decide) i _
          ko := row_setCell h.ko h.box (by decide) i _
          po := by rw [hp]; exact row_setCell h.po h.box (by decide) i _
          fo := by rw [hk]; exact row_setCell h.fo h.box (by decide) i _
          fl := by rw [hk]; exact h.fl
          ft := fun j hj => by simpa [hk] using hft j hj
          map := by rw [hs]; exact ⟨D, n, hm.setCell (map_box hm h.box) _, h1, h2⟩
          ls := by rw [hs]; exact h.ls
          lp := by rw [hp]; exact h.lp
          lk := by rw [hk]; exact h.lk
          lK := h.lK }
end Go.Proofs.YtpkjhlcolgoknaaGreatDoor.Par

namespace Go.Proofs.YtpkjhlcolgoknaaGreatDoor.Par
set_option linter.unusedVariables false
set_option maxRecDepth 100000
open Go.RowKit Go.Shelf Go.Maps
open Go.Proofs.YtpkjhlcolgoknaaGreatDoor.Ven (Seat Pole Ven seatC poleC intC Box row_next row_same row_grown row_setCell row_low rows_apart row_slice ret_bool info_of step_append_own)
open Go.Proofs.YtpkjhlcolgoknaaGreatDoor.Prs (atI wordK kindL)

theorem infoFact : ∃ i : TypeInfo, Tryz.prog.info? 133 = some i ∧ i.zero = some factZ ∧ i.size = 6 ∧ i.bytes = 72 := info_of (by kernel_rfl)
theorem cell_last (w : World) (o : Obj) (l : List Value) (e : TypeId) (j : Nat) (u : Value) (h : l[j]? = some u) : ((w.alloc o).alloc (.cells l.toArray e)).drew.cell? ⟨w.heap.size + 1, j, none⟩ = some u := by
  show ((w.alloc o).alloc (.cells l.toArray e)).cell? ⟨w.heap.size + 1, j, none⟩ = some u
  rw [World.cell?_alloc_at _ _ _ _ (by simp), List.getElem?_toArray]; exact h
/-- What a method that adds leaves: the hall with the new state, or nothing is said of it. -/
def AddTo (w : World) (base hb mb : Nat) (K : List Int) (fk : Option Nat) (o : Option St) (e : Ending) (w' : World) : Prop :=
  (match o with
  | some s' => e = .returned (.bool true) ∧ ∃ az cs ak ck ap cp af cf fs, Hall w' base hb az cs ak ck ap cp mb af cf s' K fs
  | none => e = .returned (.bool false)) ∧ OwnH base w w' ∧ Keeps fk w w'
set_option maxHeartbeats 2000000 in
theorem add_kill {w : World} {base hb : Nat} {az : Option Addr} {cs : Nat} {ak : Option Addr} {ck : Nat} {ap : Option Addr} {cp mb : Nat} {af : Option Addr} {cf : Nat} {s : St} {K : List Int} {fs : List Fact} (h : Hall w base hb az cs ak ck ap cp mb af cf s K fs)
    (tk tn tl tc : Int) (rest : List T) (g cap : Nat) (k : Kill) (hf : FactIs w ⟨(tk, tn, tl, tc, wordK 7), rest, g, cap⟩ k) :
    Calls Tryz.prog 77 #[.pointer (some ⟨hb, 0, none⟩), factV tk tn tl tc (wordK 7) (.slice (restA g cap) rest.length (cap - 1))] w fun e w' => AddTo w base hb mb K (Value.slice af s.kills.length cf).ownBlock (if s.kills.length < 200 then some { s with kills := s.kills ++ [k] } else none) e w' := by
  obtain ⟨i0, hi, hz0, hz1, hz2⟩ := infoFact
  have hb0 : Below w.heap.size w (w.alloc (.cells #[.int .i64 tk, .int .i64 tn, .int .i64 tl, .int .i64 tc, .string ⟨(wordK 7).toArray⟩, .slice (restA g cap) rest.length (cap - 1)] 133)) := (Below.refl _ w).alloc (Nat.le_refl _) _
  have q6 := h.box.cell 6 _ rfl
  have f6 := h.box.frozen 6
  have hlt := h.box.lt
  have hlt1 : hb < w.heap.size + 1 := by omega
  have HH : Hid (Hall w base hb az cs ak ck ap cp mb af cf s K fs) := h
  have HF : Hid (FactIs w ⟨(tk, tn, tl, tc, wordK 7), rest, g, cap⟩ k) := hf
  have hlk := h.lk
  clear hf
  generalize hra : restA g cap = ra at hb0 ⊢
  generalize hoo : (if s.kills.length < 200 then some { s with kills := s.kills ++ [k] } else none) = oo
  have HOO : Hid ((if s.kills.length < 200 then some { s with kills := s.kills ++ [k] } else none) = oo) := hoo
  clear hoo
  unfold wordK
  go_enter Tryz.func77, Tryz.ntmps77
  go_wp2_with fail
  have HO : Hid (∀ W', Below w.heap.size w W' → W'.ownsRow base 133 6 (.slice af s.kills.length cf) s.kills.length (fs.flatMap factC)) := fun W' hb => (HH.out.next hb).fo
  have HX : Hid (∀ W', Below w.heap.size w W' → Box W' hb 102 #[.slice az s.seats.length cs, .int .i64 s.gap, .int .i64 s.radius, .slice ak K.length ck, .slice ap s.poles.length cp, .map (some mb), .slice af s.kills.length cf, .bool s.hasR]) := fun W' hb => (HH.out.next hb).box
  have HBB : Hid (∀ o : Obj, Below w.heap.size w (((w.alloc (.cells #[.int .i64 tk, .int .i64 tn, .int .i64 tl, .int .i64 tc, .string ⟨#[107, 105, 108, 108]⟩, .slice ra rest.length (cap - 1)] 133)).alloc o).drew)) := fun o => (((Below.refl _ w).alloc (Nat.le_refl _) _).alloc (by simp) _).drew
  have HG : Hid (∀ W W2, Below w.heap.size w W → W.grownBy W2 (Value.slice af s.kills.length cf).ownBlock → Box W2 hb 102 #[.slice az s.seats.length cs, .int .i64 s.gap, .int .i64 s.radius, .slice ak K.length ck, .slice ap s.poles.length cp, .map (some mb), .slice af s.kills.length cf, .bool s.hasR]) := fun W W2 hB hgr => (HH.out.next hB).box.grown hgr ((HH.out.next hB).box.not_row (by decide) (HH.out.next hB).fo)
  have HT0 : Hid (∀ W W2 af2 cf2, Below w.heap.size w W → W2.ownsRow base 133 6 (.slice af2 (s.kills.length + 1) cf2) (s.kills.length + 1) (fs.flatMap factC ++ [.int .i64 tk, .int .i64 tn, .int .i64 tl, .int .i64 tc, .string ⟨#[107, 105, 108, 108]⟩, .slice ra rest.length (cap - 1)]) → W.grownBy W2 (Value.slice af s.kills.length cf).ownBlock → Hid (OwnH base w (W2.setCell ⟨hb, 6, none⟩ (.slice af2 (s.kills.length + 1) cf2)) ∧ Keeps (Value.slice af s.kills.length cf).ownBlock w (W2.setCell ⟨hb, 6, none⟩ (.slice af2 (s.kills.length + 1) cf2)) ∧ (s.kills.length < 200 → Hall (W2.setCell ⟨hb, 6, none⟩ (.slice af2 (s.kills.length + 1) cf2)) base hb az cs ak ck ap cp mb af2 cf2 { s with kills := s.kills ++ [k] } K (fs ++ [⟨(tk, tn, tl, tc, wordK 7), rest, g, cap⟩])))) := by
    intro W W2 af2 cf2 hB hown hgr
    have hN := HH.out.next hB
    have ho : OwnH base W W2 := OwnH.of_grown hN.fo (by decide) hgr
    refine ⟨((OwnH.of_below hB).trans ho).trans (OwnH.of_set (HG.out W W2 hB hgr) (by decide) hN.ge 6 _), ((Keeps.of_below hB).trans (Keeps.of_own hgr)).trans (Keeps.of_set (HG.out W W2 hB hgr) (by decide) 6 _), fun hlt => ?_⟩
    exact (hN.killed _ k (HF.out.own (OwnH.of_below (base := 0) hB)) hlt (by rw [← hra] at hown; exact hown) hgr).1
  have hbs := HH.out.hbase
  go_region_law (
    refine step_append_own rfl (.tmp 32) (.tmp 34) 100 rfl base 133 i0 factZ 6 72 Tryz.underlying100 hi hz0 hz1 hz2 rfl (by decide) (.slice af s.kills.length cf) s.kills.length (fs.flatMap factC) ?_ ?_ ⟨w.heap.size + 1, 0, none⟩ 1 1 [.int .i64 tk, .int .i64 tn, .int .i64 tl, .int .i64 tc, .string ⟨#[107, 105, 108, 108]⟩, .slice ra rest.length (cap - 1)] ?_ ?_ ?_ ?_ ?_ ?_ ?_ ?_
    · exact rfl
    · exact HO.out _ (HBB.out _)
    · exact rfl
    · exact rfl
    · intro j u hj; rw [Addr.add_lit, Nat.zero_add]; exact cell_last w _ _ _ j u hj
    · intro u hu; simp at hu; rcases hu with rfl | rfl | rfl | rfl | rfl | rfl <;> rfl
    · unfold maxLen; omega
    · omega
    · simp; omega
    intro v' w2 hown hgr
    obtain ⟨af2, cf2, rfl⟩ := row_slice hown
    have HU := HG.out _ _ (HBB.out _) hgr
    have y6 := HU.cell 6 _ rfl
    have z6 := HU.frozen 6
    have l6 := HU.lt
    have HT := HT0.out _ _ _ _ (HBB.out _) hown hgr
    clear hown hgr HU)
  all_goals
    go_wp2
    go_ret
    refine ⟨?_, HT.out.1, HT.out.2.1⟩
    rw [← HOO.out]
    by_cases hlt2 : s.kills.length < 200
    · rw [if_pos hlt2]; exact ⟨ret_bool (by simp; omega), _, _, _, _, _, _, _, _, _, HT.out.2.2 hlt2⟩
    · rw [if_neg hlt2]; exact ret_bool (by simp; omega)
end Go.Proofs.YtpkjhlcolgoknaaGreatDoor.Par

namespace Go.Proofs.YtpkjhlcolgoknaaGreatDoor.Par
set_option linter.unusedVariables false
set_option maxRecDepth 100000
open Go.RowKit Go.Shelf
open Go.Proofs.YtpkjhlcolgoknaaGreatDoor.Ven (Box Slots wp_region_inv getD_set start_false putAll Slots.start mixed)

set_option maxHeartbeats 1000000 in
theorem pole_region {Q : Exit → Act → World → Prop} (a0 : Act) (W : World) (hsz0 : a0.tmps.size = 101) (fb : Nat) (h3 : a0.tmps[3]? = some (.pointer (some ⟨fb, 0, none⟩))) (tk tn tl tc : Int) (tt : List UInt8) (v : Value) (rest : List T)
    (hF : Box W fb 133 #[.int .i64 tk, .int .i64 tn, .int .i64 tl, .int .i64 tc, .string ⟨tt.toArray⟩, v])
    (HN : ∀ w, Below W.heap.size W w → ∀ i : Nat, i < 3 → ∀ n, nOf rest i = n → Calls Tryz.prog 113 #[factV tk tn tl tc tt v, .int .i64 i] w fun e w' => e = .returned (.int .i64 n) ∧ Below w.heap.size w w')
    (x y z : Int) (hx : nOf rest 0 = x) (hy : nOf rest 1 = y) (hz : nOf rest 2 = z)
    (hQ : ∀ w' b, Below W.heap.size W w' → W.heap.size ≤ b → Box w' b 85 #[.int .i64 x, .int .i64 y, .int .i64 z] → Q .normal { tmps := putAll a0.tmps [(46, factV tk tn tl tc tt v), (47, .int .i64 x), (48, factV tk tn tl tc tt v), (49, .int .i64 y), (50, factV tk tn tl tc tt v), (51, .int .i64 z), (52, .agg #[.int .i64 x, .int .i64 y, .int .i64 z]), (5, .pointer (some ⟨b, 0, none⟩))], defers := a0.defers } w') :
    (Code.region 12 #[{ dst := some 46, op := Op.load 133 (Operand.tmp 3), type := 133, pos := "hall.go:67", after := #[], guard := none }, { dst := some 47, op := Op.call { callee := Callee.value (Operand.func 113), args := #[Operand.tmp 46, Operand.const (Value.int IntKind.i64 0)], argTypes := #[133, 3] }, type := 3, pos := "hall.go:67", after := #[{ on := 0, ground := Ground.data }], guard := none }, { dst := some 48, op := Op.load 133 (Operand.tmp 3), type := 133, pos := "hall.go:67", after := #[], guard := none }, { dst := some 49, op := Op.call { callee := Callee.value (Operand.func 113), args := #[Operand.tmp 48, Operand.const (Value.int IntKind.i64 1)], argTypes := #[133, 3] }, type := 3, pos := "hall.go:67", after := #[{ on := 2, ground := Ground.data }, { on := 1, ground := Ground.chain }], guard := none }, { dst := some 50, op := Op.load 133 (Operand.tmp 3), type := 133, pos := "hall.go:67", after := #[], guard := none }, { dst := some 51, op := Op.call { callee := Callee.value (Operand.func 113), args := #[Operand.tmp 50, Operand.const (Value.int IntKind.i64 2)], argTypes := #[133, 3] }, type := 3, pos := "hall.go:67", after := #[{ on := 4, ground := Ground.data }, { on := 3, ground := Ground.chain }], guard := none }, { dst := some 52, op := Op.build 85 #[(0, Operand.tmp 47), (1, Operand.tmp 49), (2, Operand.tmp 51)], type := 85, pos := "hall.go:67", after := #[{ on := 1, ground := Ground.data }, { on := 3, ground := Ground.data }, { on := 5, ground := Ground.data }], guard := none }, { dst := some 5, op := Op.alloc 85, type := 0, pos := "hall.go:67", after := #[], guard := none }, { dst := none, op := Op.store 85 (Operand.tmp 5) (Operand.tmp 52), type := 0, pos := "hall.go:67", after := #[{ on := 7, ground := Ground.data }, { on := 6, ground := Ground.data }, { on := 5, ground := Ground.chain }, { on := 0, ground := Ground.phase }, { on := 1, ground := Ground.phase }, { on := 2, ground := Ground.phase }, { on := 3, ground := Ground.phase }, { on := 4, ground := Ground.phase }, { on := 5, ground := Ground.phase }, { on := 6, ground := Ground.phase }, { on := 7, ground := Ground.phase }], guard := none }] true).wp Tryz.prog Q a0 W := by
  have hn : ([some 46, some 47, some 48, some 49, some 50, some 51, some 52, some 5, none] : List (Option Nat)).Pairwise (fun x y => x = none ∨ x ≠ y) := of_decide_eq_true (by kernel_rfl)
  refine wp_region_inv mixed (fun listed a w => Slots a0 [some 46, some 47, some 48, some 49, some 50, some 51, some 52, some 5, none] [some (factV tk tn tl tc tt v), some (.int .i64 x), some (factV tk tn tl tc tt v), some (.int .i64 y), some (factV tk tn tl tc tt v), some (.int .i64 z), some (.agg #[.int .i64 x, .int .i64 y, .int .i64 z]), none, none] listed a ∧ Below W.heap.size W w ∧ (listed.getD 7 false = true → ∃ b, W.heap.size ≤ b ∧ a.tmps[5]? = some (.pointer (some ⟨b, 0, none⟩)) ∧ Box w b 85 (if listed.getD 8 false = true then #[.int .i64 x, .int .i64 y, .int .i64 z] else #[.int .i64 0, .int .i64 0, .int .i64 0]))) (by kernel_rfl) ?_ ?_ ?_
  · exact ⟨Slots.start _ _ _ _, (Below.refl _ W).drew, fun h => by rw [start_false] at h; cases h⟩
  · intro listed a w i' hsl hilt hl hd hcl ⟨hS, hb, hA⟩
    have hsz : Hid (a.tmps.size = 101) := hS.size.trans hsz0
    have hls : i' < listed.size := by rw [hsl]; exact hilt
    have hcase : i' = 0 ∨ i' = 1 ∨ i' = 2 ∨ i' = 3 ∨ i' = 4 ∨ i' = 5 ∨ i' = 6 ∨ i' = 7 ∨ i' = 8 := by
      have : i' < 9 := hilt
      omega
    rcases hcase with rfl | rfl | rfl | rfl | rfl | rfl | rfl | rfl | rfl
    ·
      refine wpOp_step (o := { dst := some 46, op := Op.load 133 (Operand.tmp 3), type := 133, pos := "hall.go:67", after := #[], guard := none }) rfl ?_
      intro K hK
      have q3 : a.tmps[3]? = some (.pointer (some ⟨fb, 0, none⟩)) := (hS.keep 3 (of_decide_eq_true (by kernel_rfl))).trans h3
      have bx := hF.next hb
      have m0 := bx.cell 0 _ rfl
      have m1 := bx.cell 1 _ rfl
      have m2 := bx.cell 2 _ rfl
      have m3 := bx.cell 3 _ rfl
      have m4 := bx.cell 4 _ rfl
      have m5 := bx.cell 5 _ rfl
      go_simp
      exact hK _ _ ⟨(hS.put hn 0 46 _ rfl (by rw [hsz0]; omega) (fun u h => by injection h with h; injection h with h; exact h.symm)), hb, fun h => by
        rw [getD_set hls, if_neg (by omega)] at h
        obtain ⟨b, hb1, hb2, hb3⟩ := hA h
        refine ⟨b, hb1, by simpa using hb2, ?_⟩
        rw [show (listed.setIfInBounds 0 true).getD 8 false = listed.getD 8 false by rw [getD_set hls, if_neg (by omega)]]
        exact hb3⟩
    ·
      refine wpOp_step (o := { dst := some 47, op := Op.call { callee := Callee.value (Operand.func 113), args := #[Operand.tmp 46, Operand.const (Value.int IntKind.i64 0)], argTypes := #[133, 3] }, type := 3, pos := "hall.go:67", after := #[{ on := 0, ground := Ground.data }], guard := none }) rfl ?_
      intro K hK
      have q46 : a.tmps[46]? = some (factV tk tn tl tc tt v) := hS.val 0 46 _ (hd 0 (of_decide_eq_true (by kernel_rfl))) rfl rfl
      go_simp
      refine (HN w hb 0 (by omega) _ hx).mono ?_
      rintro e w' ⟨rfl, hbw⟩
      go_simp
      exact hK _ _ ⟨(hS.put hn 1 47 _ rfl (by rw [hsz0]; omega) (fun u h => by injection h with h; injection h with h; exact h.symm)), hb.trans (hbw.mono hb.size), fun h => by
        rw [getD_set hls, if_neg (by omega)] at h
        obtain ⟨b, hb1, hb2, hb3⟩ := hA h
        refine ⟨b, hb1, by simpa using hb2, ?_⟩
        rw [show (listed.setIfInBounds 1 true).getD 8 false = listed.getD 8 false by rw [getD_set hls, if_neg (by omega)]]
        exact hb3.next hbw⟩
    ·
      refine wpOp_step (o := { dst := some 48, op := Op.load 133 (Operand.tmp 3), type := 133, pos := "hall.go:67", after := #[], guard := none }) rfl ?_
      intro K hK
      have q3 : a.tmps[3]? = some (.pointer (some ⟨fb, 0, none⟩)) := (hS.keep 3 (of_decide_eq_true (by kernel_rfl))).trans h3
      have bx := hF.next hb
      have m0 := bx.cell 0 _ rfl
      have m1 := bx.cell 1 _ rfl
      have m2 := bx.cell 2 _ rfl
      have m3 := bx.cell 3 _ rfl
      have m4 := bx.cell 4 _ rfl
      have m5 := bx.cell 5 _ rfl
      go_simp
      exact hK _ _ ⟨(hS.put hn 2 48 _ rfl (by rw [hsz0]; omega) (fun u h => by injection h with h; injection h with h; exact h.symm)), hb, fun h => by
        rw [getD_set hls, if_neg (by omega)] at h
        obtain ⟨b, hb1, hb2, hb3⟩ := hA h
        refine ⟨b, hb1, by simpa using hb2, ?_⟩
        rw [show (listed.setIfInBounds 2 true).getD 8 false = listed.getD 8 false by rw [getD_set hls, if_neg (by omega)]]
        exact hb3⟩
    ·
      refine wpOp_step (o := { dst := some 49, op := Op.call { callee := Callee.value (Operand.func 113), args := #[Operand.tmp 48, Operand.const (Value.int IntKind.i64 1)], argTypes := #[133, 3] }, type := 3, pos := "hall.go:67", after := #[{ on := 2, ground := Ground.data }, { on := 1, ground := Ground.chain }], guard := none }) rfl ?_
      intro K hK
      have q48 : a.tmps[48]? = some (factV tk tn tl tc tt v) := hS.val 2 48 _ (hd 2 (of_decide_eq_true (by kernel_rfl))) rfl rfl
      go_simp
      refine (HN w hb 1 (by omega) _ hy).mono ?_
      rintro e w' ⟨rfl, hbw⟩
      go_simp
      exact hK _ _ ⟨(hS.put hn 3 49 _ rfl (by rw [hsz0]; omega) (fun u h => by injection h with h; injection h with h; exact h.symm)), hb.trans (hbw.mono hb.size), fun h => by
        rw [getD_set hls, if_neg (by omega)] at h
        obtain ⟨b, hb1, hb2, hb3⟩ := hA h
        refine ⟨b, hb1, by simpa using hb2, ?_⟩
        rw [show (listed.setIfInBounds 3 true).getD 8 false = listed.getD 8 false by rw [getD_set hls, if_neg (by omega)]]
        exact hb3.next hbw⟩
    ·
      refine wpOp_step (o := { dst := some 50, op := Op.load 133 (Operand.tmp 3), type := 133, pos := "hall.go:67", after := #[], guard := none }) rfl ?_
      intro K hK
      have q3 : a.tmps[3]? = some (.pointer (some ⟨fb, 0, none⟩)) := (hS.keep 3 (of_decide_eq_true (by kernel_rfl))).trans h3
      have bx := hF.next hb
      have m0 := bx.cell 0 _ rfl
      have m1 := bx.cell 1 _ rfl
      have m2 := bx.cell 2 _ rfl
      have m3 := bx.cell 3 _ rfl
      have m4 := bx.cell 4 _ rfl
      have m5 := bx.cell 5 _ rfl
      go_simp
      exact hK _ _ ⟨(hS.put hn 4 50 _ rfl (by rw [hsz0]; omega) (fun u h => by injection h with h; injection h with h; exact h.symm)), hb, fun h => by
        rw [getD_set hls, if_neg (by omega)] at h
        obtain ⟨b, hb1, hb2, hb3⟩ := hA h
        refine ⟨b, hb1, by simpa using hb2, ?_⟩
        rw [show (listed.setIfInBounds 4 true).getD 8 false = listed.getD 8 false by rw [getD_set hls, if_neg (by omega)]]
        exact hb3⟩
    ·
      refine wpOp_step (o := { dst := some 51, op := Op.call { callee := Callee.value (Operand.func 113), args := #[Operand.tmp 50, Operand.const (Value.int IntKind.i64 2)], argTypes := #[133, 3] }, type := 3, pos := "hall.go:67", after := #[{ on := 4, ground := Ground.data }, { on := 3, ground := Ground.chain }], guard := none }) rfl ?_
      intro K hK
      have q50 : a.tmps[50]? = some (factV tk tn tl tc tt v) := hS.val 4 50 _ (hd 4 (of_decide_eq_true (by kernel_rfl))) rfl rfl
      go_simp
      refine (HN w hb 2 (by omega) _ hz).mono ?_
      rintro e w' ⟨rfl, hbw⟩
      go_simp
      exact hK _ _ ⟨(hS.put hn 5 51 _ rfl (by rw [hsz0]; omega) (fun u h => by injection h with h; injection h with h; exact h.symm)), hb.trans (hbw.mono hb.size), fun h => by
        rw [getD_set hls, if_neg (by omega)] at h
        obtain ⟨b, hb1, hb2, hb3⟩ := hA h
        refine ⟨b, hb1, by simpa using hb2, ?_⟩
        rw [show (listed.setIfInBounds 5 true).getD 8 false = listed.getD 8 false by rw [getD_set hls, if_neg (by omega)]]
        exact hb3.next hbw⟩
    ·
      refine wpOp_step (o := { dst := some 52, op := Op.build 85 #[(0, Operand.tmp 47), (1, Operand.tmp 49), (2, Operand.tmp 51)], type := 85, pos := "hall.go:67", after := #[{ on := 1, ground := Ground.data }, { on := 3, ground := Ground.data }, { on := 5, ground := Ground.data }], guard := none }) rfl ?_
      intro K hK
      have q47 : a.tmps[47]? = some (.int .i64 x) := hS.val 1 47 _ (hd 1 (of_decide_eq_true (by kernel_rfl))) rfl rfl
      have q49 : a.tmps[49]? = some (.int .i64 y) := hS.val 3 49 _ (hd 3 (of_decide_eq_true (by kernel_rfl))) rfl rfl
      have q51 : a.tmps[51]? = some (.int .i64 z) := hS.val 5 51 _ (hd 5 (of_decide_eq_true (by kernel_rfl))) rfl rfl
      go_simp
      exact hK _ _ ⟨(hS.put hn 6 52 _ rfl (by rw [hsz0]; omega) (fun u h => by injection h with h; injection h with h; exact h.symm)), hb, fun h => by
        rw [getD_set hls, if_neg (by omega)] at h
        obtain ⟨b, hb1, hb2, hb3⟩ := hA h
        refine ⟨b, hb1, by simpa using hb2, ?_⟩
        rw [show (listed.setIfInBounds 6 true).getD 8 false = listed.getD 8 false by rw [getD_set hls, if_neg (by omega)]]
        exact hb3⟩
    ·
      refine wpOp_step (o := { dst := some 5, op := Op.alloc 85, type := 0, pos := "hall.go:67", after := #[], guard := none }) rfl ?_
      intro K hK
      have n8 : listed.getD 8 false = false := by
        cases h : listed.getD 8 false with
        | false => rfl
        | true => rw [hcl 8 7 h (of_decide_eq_true (by kernel_rfl))] at hl; cases hl
      go_simp
      refine hK _ _ ⟨(hS.put hn 7 5 _ rfl (by rw [hsz0]; omega) (fun u h => by injection h with h; cases h)), hb.alloc hb.size _, fun _ => ⟨w.heap.size, hb.size, by simp [hsz.out], ?_⟩⟩
      rw [show (listed.setIfInBounds 7 true).getD 8 false = listed.getD 8 false by rw [getD_set hls, if_neg (by omega)], n8]
      exact Box.fresh w 85 _
    ·
      refine wpOp_step (o := { dst := none, op := Op.store 85 (Operand.tmp 5) (Operand.tmp 52), type := 0, pos := "hall.go:67", after := #[{ on := 7, ground := Ground.data }, { on := 6, ground := Ground.data }, { on := 5, ground := Ground.chain }, { on := 0, ground := Ground.phase }, { on := 1, ground := Ground.phase }, { on := 2, ground := Ground.phase }, { on := 3, ground := Ground.phase }, { on := 4, ground := Ground.phase }, { on := 5, ground := Ground.phase }, { on := 6, ground := Ground.phase }, { on := 7, ground := Ground.phase }], guard := none }) rfl ?_
      intro K hK
      obtain ⟨b, hb1, q5, hb3⟩ := hA (hd 7 (of_decide_eq_true (by kernel_rfl)))
      rw [hl] at hb3
      have hb4 : Box w b 85 #[.int .i64 0, .int .i64 0, .int .i64 0] := hb3
      have q52 : a.tmps[52]? = some (.agg #[.int .i64 x, .int .i64 y, .int .i64 z]) := hS.val 6 52 _ (hd 6 (of_decide_eq_true (by kernel_rfl))) rfl rfl
      have m0 := hb4.cell 0 _ rfl
      have f0 := hb4.frozen 0
      have m1 := hb4.cell 1 _ rfl
      have f1 := hb4.frozen 1
      have m2 := hb4.cell 2 _ rfl
      have f2 := hb4.frozen 2
      have lt := hb4.lt
      go_simp
      refine hK _ _ ⟨hS.skip 8 rfl, ?_, fun _ => ⟨b, hb1, q5, ?_⟩⟩
      · exact (Below.setCell (Below.setCell (Below.setCell hb (by omega) _) (by omega) _) (by omega) _)
      · rw [show (listed.setIfInBounds 8 true).getD 8 false = true by rw [getD_set hls, if_pos rfl]]
        exact (((hb4.set 0 (.int .i64 x)).set 1 (.int .i64 y)).set 2 (.int .i64 z))
  · intro listed a w hall ⟨hS, hb, hA⟩
    obtain ⟨b, hb1, hb2, hb3⟩ := hA (hall 7 (by show 7 < 9; omega))
    rw [hall 8 (by show 8 < 9; omega), if_pos rfl] at hb3
    have he := hS.frame [(46, factV tk tn tl tc tt v), (47, .int .i64 x), (48, factV tk tn tl tc tt v), (49, .int .i64 y), (50, factV tk tn tl tc tt v), (51, .int .i64 z), (52, .agg #[.int .i64 x, .int .i64 y, .int .i64 z]), (5, .pointer (some ⟨b, 0, none⟩))] rfl (by show List.Pairwise _ [46, 47, 48, 49, 50, 51, 52, 5]; decide) (by simp [hsz0]) (by
        intro p hp
        simp only [List.mem_cons, List.not_mem_nil, or_false] at hp
        rcases hp with rfl | rfl | rfl | rfl | rfl | rfl | rfl | rfl
        · exact hS.val 0 46 _ (hall 0 (by show 0 < 9; omega)) rfl rfl
        · exact hS.val 1 47 _ (hall 1 (by show 1 < 9; omega)) rfl rfl
        · exact hS.val 2 48 _ (hall 2 (by show 2 < 9; omega)) rfl rfl
        · exact hS.val 3 49 _ (hall 3 (by show 3 < 9; omega)) rfl rfl
        · exact hS.val 4 50 _ (hall 4 (by show 4 < 9; omega)) rfl rfl
        · exact hS.val 5 51 _ (hall 5 (by show 5 < 9; omega)) rfl rfl
        · exact hS.val 6 52 _ (hall 6 (by show 6 < 9; omega)) rfl rfl
        · exact hb2
      )
    rw [he]
    exact hQ w b hb hb1 hb3
set_option maxHeartbeats 1000000 in
theorem seat_region {Q : Exit → Act → World → Prop} (a0 : Act) (W : World) (hsz0 : a0.tmps.size = 64) (fb : Nat) (h3 : a0.tmps[4]? = some (.pointer (some ⟨fb, 0, none⟩))) (kk : Int) (h2 : a0.tmps[2]? = some (.int .i64 kk)) (tk tn tl tc : Int) (tt : List UInt8) (v : Value) (rest : List T)
    (hF : Box W fb 133 #[.int .i64 tk, .int .i64 tn, .int .i64 tl, .int .i64 tc, .string ⟨tt.toArray⟩, v])
    (HN : ∀ w, Below W.heap.size W w → ∀ i : Nat, i < 3 → ∀ n, nOf rest i = n → Calls Tryz.prog 113 #[factV tk tn tl tc tt v, .int .i64 i] w fun e w' => e = .returned (.int .i64 n) ∧ Below w.heap.size w w')
    (x y z : Int) (hx : nOf rest 0 = x) (hy : nOf rest 1 = y) (hz : nOf rest 2 = z)
    (hQ : ∀ w' b, Below W.heap.size W w' → W.heap.size ≤ b → Box w' b 57 #[.int .i64 x, .int .i64 y, .int .i64 z, .int .i64 kk] → Q .normal { tmps := putAll a0.tmps [(11, factV tk tn tl tc tt v), (12, .int .i64 x), (13, factV tk tn tl tc tt v), (14, .int .i64 y), (15, factV tk tn tl tc tt v), (16, .int .i64 z), (17, .int .i64 kk), (18, .agg #[.int .i64 x, .int .i64 y, .int .i64 z, .int .i64 kk]), (7, .pointer (some ⟨b, 0, none⟩))], defers := a0.defers } w') :
    (Code.region 1 #[{ dst := some 11, op := Op.load 133 (Operand.tmp 4), type := 133, pos := "hall.go:86", after := #[], guard := none }, { dst := some 12, op := Op.call { callee := Callee.value (Operand.func 113), args := #[Operand.tmp 11, Operand.const (Value.int IntKind.i64 0)], argTypes := #[133, 3] }, type := 3, pos := "hall.go:86", after := #[{ on := 0, ground := Ground.data }], guard := none }, { dst := some 13, op := Op.load 133 (Operand.tmp 4), type := 133, pos := "hall.go:86", after := #[], guard := none }, { dst := some 14, op := Op.call { callee := Callee.value (Operand.func 113), args := #[Operand.tmp 13, Operand.const (Value.int IntKind.i64 1)], argTypes := #[133, 3] }, type := 3, pos := "hall.go:86", after := #[{ on := 2, ground := Ground.data }, { on := 1, ground := Ground.chain }], guard := none }, { dst := some 15, op := Op.load 133 (Operand.tmp 4), type := 133, pos := "hall.go:86", after := #[], guard := none }, { dst := some 16, op := Op.call { callee := Callee.value (Operand.func 113), args := #[Operand.tmp 15, Operand.const (Value.int IntKind.i64 2)], argTypes := #[133, 3] }, type := 3, pos := "hall.go:86", after := #[{ on := 4, ground := Ground.data }, { on := 3, ground := Ground.chain }], guard := none }, { dst := some 17, op := Op.move (Operand.tmp 2), type := 3, pos := "hall.go:86", after := #[], guard := none }, { dst := some 18, op := Op.build 57 #[(0, Operand.tmp 12), (1, Operand.tmp 14), (2, Operand.tmp 16), (3, Operand.tmp 17)], type := 57, pos := "hall.go:86", after := #[{ on := 1, ground := Ground.data }, { on := 3, ground := Ground.data }, { on := 5, ground := Ground.data }, { on := 6, ground := Ground.data }], guard := none }, { dst := some 7, op := Op.alloc 57, type := 0, pos := "hall.go:86", after := #[], guard := none }, { dst := none, op := Op.store 57 (Operand.tmp 7) (Operand.tmp 18), type := 0, pos := "hall.go:86", after := #[{ on := 8, ground := Ground.data }, { on := 7, ground := Ground.data }, { on := 5, ground := Ground.chain }, { on := 0, ground := Ground.phase }, { on := 1, ground := Ground.phase }, { on := 2, ground := Ground.phase }, { on := 3, ground := Ground.phase }, { on := 4, ground := Ground.phase }, { on := 5, ground := Ground.phase }, { on := 6, ground := Ground.phase }, { on := 7, ground := Ground.phase }, { on := 8, ground := Ground.phase }], guard := none }] true).wp Tryz.prog Q a0 W := by
  have hn : ([some 11, some 12, some 13, some 14, some 15, some 16, some 17, some 18, some 7, none] : List (Option Nat)).Pairwise (fun x y => x = none ∨ x ≠ y) := of_decide_eq_true (by kernel_rfl)
  refine wp_region_inv mixed (fun listed a w => Slots a0 [some 11, some 12, some 13, some 14, some 15, some 16, some 17, some 18, some 7, none] [some (factV tk tn tl tc tt v), some (.int .i64 x), some (factV tk tn tl tc tt v), some (.int .i64 y), some (factV tk tn tl tc tt v), some (.int .i64 z), some (.int .i64 kk), some (.agg #[.int .i64 x, .int .i64 y, .int .i64 z, .int .i64 kk]), none, none] listed a ∧ Below W.heap.size W w ∧ (listed.getD 8 false = true → ∃ b, W.heap.size ≤ b ∧ a.tmps[7]? = some (.pointer (some ⟨b, 0, none⟩)) ∧ Box w b 57 (if listed.getD 9 false = true then #[.int .i64 x, .int .i64 y, .int .i64 z, .int .i64 kk] else #[.int .i64 0, .int .i64 0, .int .i64 0, .int .i64 0]))) (by kernel_rfl) ?_ ?_ ?_
  · exact ⟨Slots.start _ _ _ _, (Below.refl _ W).drew, fun h => by rw [start_false] at h; cases h⟩
  · intro listed a w i' hsl hilt hl hd hcl ⟨hS, hb, hA⟩
    have hsz : Hid (a.tmps.size = 64) := hS.size.trans hsz0
    have hls : i' < listed.size := by rw [hsl]; exact hilt
    have hcase : i' = 0 ∨ i' = 1 ∨ i' = 2 ∨ i' = 3 ∨ i' = 4 ∨ i' = 5 ∨ i' = 6 ∨ i' = 7 ∨ i' = 8 ∨ i' = 9 := by
      have : i' < 10 := hilt
      omega
    rcases hcase with rfl | rfl | rfl | rfl | rfl | rfl | rfl | rfl | rfl | rfl
    ·
      refine wpOp_step (o := { dst := some 11, op := Op.load 133 (Operand.tmp 4), type := 133, pos := "hall.go:86", after := #[], guard := none }) rfl ?_
      intro K hK
      have q4 : a.tmps[4]? = some (.pointer (some ⟨fb, 0, none⟩)) := (hS.keep 4 (of_decide_eq_true (by kernel_rfl))).trans h3
      have bx := hF.next hb
      have m0 := bx.cell 0 _ rfl
      have m1 := bx.cell 1 _ rfl
      have m2 := bx.cell 2 _ rfl
      have m3 := bx.cell 3 _ rfl
      have m4 := bx.cell 4 _ rfl
      have m5 := bx.cell 5 _ rfl
      go_simp
      exact hK _ _ ⟨(hS.put hn 0 11 _ rfl (by rw [hsz0]; omega) (fun u h => by injection h with h; injection h with h; exact h.symm)), hb, fun h => by
        rw [getD_set hls, if_neg (by omega)] at h
        obtain ⟨b, hb1, hb2, hb3⟩ := hA h
        refine ⟨b, hb1, by simpa using hb2, ?_⟩
        rw [show (listed.setIfInBounds 0 true).getD 9 false = listed.getD 9 false by rw [getD_set hls, if_neg (by omega)]]
        exact hb3⟩
    ·
      refine wpOp_step (o := { dst := some 12, op := Op.call { callee := Callee.value (Operand.func 113), args := #[Operand.tmp 11, Operand.const (Value.int IntKind.i64 0)], argTypes := #[133, 3] }, type := 3, pos := "hall.go:86", after := #[{ on := 0, ground := Ground.data }], guard := none }) rfl ?_
      intro K hK
      have q11 : a.tmps[11]? = some (factV tk tn tl tc tt v) := hS.val 0 11 _ (hd 0 (of_decide_eq_true (by kernel_rfl))) rfl rfl
      go_simp
      refine (HN w hb 0 (by omega) _ hx).mono ?_
      rintro e w' ⟨rfl, hbw⟩
      go_simp
      exact hK _ _ ⟨(hS.put hn 1 12 _ rfl (by rw [hsz0]; omega) (fun u h => by injection h with h; injection h with h; exact h.symm)), hb.trans (hbw.mono hb.size), fun h => by
        rw [getD_set hls, if_neg (by omega)] at h
        obtain ⟨b, hb1, hb2, hb3⟩ := hA h
        refine ⟨b, hb1, by simpa using hb2, ?_⟩
        rw [show (listed.setIfInBounds 1 true).getD 9 false = listed.getD 9 false by rw [getD_set hls, if_neg (by omega)]]
        exact hb3.next hbw⟩
    ·
      refine wpOp_step (o := { dst := some 13, op := Op.load 133 (Operand.tmp 4), type := 133, pos := "hall.go:86", after := #[], guard := none }) rfl ?_
      intro K hK
      have q4 : a.tmps[4]? = some (.pointer (some ⟨fb, 0, none⟩)) := (hS.keep 4 (of_decide_eq_true (by kernel_rfl))).trans h3
      have bx := hF.next hb
      have m0 := bx.cell 0 _ rfl
      have m1 := bx.cell 1 _ rfl
      have m2 := bx.cell 2 _ rfl
      have m3 := bx.cell 3 _ rfl
      have m4 := bx.cell 4 _ rfl
      have m5 := bx.cell 5 _ rfl
      go_simp
      exact hK _ _ ⟨(hS.put hn 2 13 _ rfl (by rw [hsz0]; omega) (fun u h => by injection h with h; injection h with h; exact h.symm)), hb, fun h => by
        rw [getD_set hls, if_neg (by omega)] at h
        obtain ⟨b, hb1, hb2, hb3⟩ := hA h
        refine ⟨b, hb1, by simpa using hb2, ?_⟩
        rw [show (listed.setIfInBounds 2 true).getD 9 false = listed.getD 9 false by rw [getD_set hls, if_neg (by omega)]]
        exact hb3⟩
    ·
      refine wpOp_step (o := { dst := some 14, op := Op.call { callee := Callee.value (Operand.func 113), args := #[Operand.tmp 13, Operand.const (Value.int IntKind.i64 1)], argTypes := #[133, 3] }, type := 3, pos := "hall.go:86", after := #[{ on := 2, ground := Ground.data }, { on := 1, ground := Ground.chain }], guard := none }) rfl ?_
      intro K hK
      have q13 : a.tmps[13]? = some (factV tk tn tl tc tt v) := hS.val 2 13 _ (hd 2 (of_decide_eq_true (by kernel_rfl))) rfl rfl
      go_simp
      refine (HN w hb 1 (by omega) _ hy).mono ?_
      rintro e w' ⟨rfl, hbw⟩
      go_simp
      exact hK _ _ ⟨(hS.put hn 3 14 _ rfl (by rw [hsz0]; omega) (fun u h => by injection h with h; injection h with h; exact h.symm)), hb.trans (hbw.mono hb.size), fun h => by
        rw [getD_set hls, if_neg (by omega)] at h
        obtain ⟨b, hb1, hb2, hb3⟩ := hA h
        refine ⟨b, hb1, by simpa using hb2, ?_⟩
        rw [show (listed.setIfInBounds 3 true).getD 9 false = listed.getD 9 false by rw [getD_set hls, if_neg (by omega)]]
        exact hb3.next hbw⟩
    ·
      refine wpOp_step (o := { dst := some 15, op := Op.load 133 (Operand.tmp 4), type := 133, pos := "hall.go:86", after := #[], guard := none }) rfl ?_
      intro K hK
      have q4 : a.tmps[4]? = some (.pointer (some ⟨fb, 0, none⟩)) := (hS.keep 4 (of_decide_eq_true (by kernel_rfl))).trans h3
      have bx := hF.next hb
      have m0 := bx.cell 0 _ rfl
      have m1 := bx.cell 1 _ rfl
      have m2 := bx.cell 2 _ rfl
      have m3 := bx.cell 3 _ rfl
      have m4 := bx.cell 4 _ rfl
      have m5 := bx.cell 5 _ rfl
      go_simp
      exact hK _ _ ⟨(hS.put hn 4 15 _ rfl (by rw [hsz0]; omega) (fun u h => by injection h with h; injection h with h; exact h.symm)), hb, fun h => by
        rw [getD_set hls, if_neg (by omega)] at h
        obtain ⟨b, hb1, hb2, hb3⟩ := hA h
        refine ⟨b, hb1, by simpa using hb2, ?_⟩
        rw [show (listed.setIfInBounds 4 true).getD 9 false = listed.getD 9 false by rw [getD_set hls, if_neg (by omega)]]
        exact hb3⟩
    ·
      refine wpOp_step (o := { dst := some 16, op := Op.call { callee := Callee.value (Operand.func 113), args := #[Operand.tmp 15, Operand.const (Value.int IntKind.i64 2)], argTypes := #[133, 3] }, type := 3, pos := "hall.go:86", after := #[{ on := 4, ground := Ground.data }, { on := 3, ground := Ground.chain }], guard := none }) rfl ?_
      intro K hK
      have q15 : a.tmps[15]? = some (factV tk tn tl tc tt v) := hS.val 4 15 _ (hd 4 (of_decide_eq_true (by kernel_rfl))) rfl rfl
      go_simp
      refine (HN w hb 2 (by omega) _ hz).mono ?_
      rintro e w' ⟨rfl, hbw⟩
      go_simp
      exact hK _ _ ⟨(hS.put hn 5 16 _ rfl (by rw [hsz0]; omega) (fun u h => by injection h with h; injection h with h; exact h.symm)), hb.trans (hbw.mono hb.size), fun h => by
        rw [getD_set hls, if_neg (by omega)] at h
        obtain ⟨b, hb1, hb2, hb3⟩ := hA h
        refine ⟨b, hb1, by simpa using hb2, ?_⟩
        rw [show (listed.setIfInBounds 5 true).getD 9 false = listed.getD 9 false by rw [getD_set hls, if_neg (by omega)]]
        exact hb3.next hbw⟩
    ·
      refine wpOp_step (o := { dst := some 17, op := Op.move (Operand.tmp 2), type := 3, pos := "hall.go:86", after := #[], guard := none }) rfl ?_
      intro K hK
      have q2 : a.tmps[2]? = some (.int .i64 kk) := (hS.keep 2 (of_decide_eq_true (by kernel_rfl))).trans h2
      go_simp
      exact hK _ _ ⟨(hS.put hn 6 17 _ rfl (by rw [hsz0]; omega) (fun u h => by injection h with h; injection h with h; exact h.symm)), hb, fun h => by
        rw [getD_set hls, if_neg (by omega)] at h
        obtain ⟨b, hb1, hb2, hb3⟩ := hA h
        refine ⟨b, hb1, by simpa using hb2, ?_⟩
        rw [show (listed.setIfInBounds 6 true).getD 9 false = listed.getD 9 false by rw [getD_set hls, if_neg (by omega)]]
        exact hb3⟩
    ·
      refine wpOp_step (o := { dst := some 18, op := Op.build 57 #[(0, Operand.tmp 12), (1, Operand.tmp 14), (2, Operand.tmp 16), (3, Operand.tmp 17)], type := 57, pos := "hall.go:86", after := #[{ on := 1, ground := Ground.data }, { on := 3, ground := Ground.data }, { on := 5, ground := Ground.data }, { on := 6, ground := Ground.data }], guard := none }) rfl ?_
      intro K hK
      have q12 : a.tmps[12]? = some (.int .i64 x) := hS.val 1 12 _ (hd 1 (of_decide_eq_true (by kernel_rfl))) rfl rfl
      have q14 : a.tmps[14]? = some (.int .i64 y) := hS.val 3 14 _ (hd 3 (of_decide_eq_true (by kernel_rfl))) rfl rfl
      have q16 : a.tmps[16]? = some (.int .i64 z) := hS.val 5 16 _ (hd 5 (of_decide_eq_true (by kernel_rfl))) rfl rfl
      have q17 : a.tmps[17]? = some (.int .i64 kk) := hS.val 6 17 _ (hd 6 (of_decide_eq_true (by kernel_rfl))) rfl rfl
      go_simp
      exact hK _ _ ⟨(hS.put hn 7 18 _ rfl (by rw [hsz0]; omega) (fun u h => by injection h with h; injection h with h; exact h.symm)), hb, fun h => by
        rw [getD_set hls, if_neg (by omega)] at h
        obtain ⟨b, hb1, hb2, hb3⟩ := hA h
        refine ⟨b, hb1, by simpa using hb2, ?_⟩
        rw [show (listed.setIfInBounds 7 true).getD 9 false = listed.getD 9 false by rw [getD_set hls, if_neg (by omega)]]
        exact hb3⟩
    ·
      refine wpOp_step (o := { dst := some 7, op := Op.alloc 57, type := 0, pos := "hall.go:86", after := #[], guard := none }) rfl ?_
      intro K hK
      have n9 : listed.getD 9 false = false := by
        cases h : listed.getD 9 false with
        | false => rfl
        | true => rw [hcl 9 8 h (of_decide_eq_true (by kernel_rfl))] at hl; cases hl
      go_simp
      refine hK _ _ ⟨(hS.put hn 8 7 _ rfl (by rw [hsz0]; omega) (fun u h => by injection h with h; cases h)), hb.alloc hb.size _, fun _ => ⟨w.heap.size, hb.size, by simp [hsz.out], ?_⟩⟩
      rw [show (listed.setIfInBounds 8 true).getD 9 false = listed.getD 9 false by rw [getD_set hls, if_neg (by omega)], n9]
      exact Box.fresh w 57 _
    ·
      refine wpOp_step (o := { dst := none, op := Op.store 57 (Operand.tmp 7) (Operand.tmp 18), type := 0, pos := "hall.go:86", after := #[{ on := 8, ground := Ground.data }, { on := 7, ground := Ground.data }, { on := 5, ground := Ground.chain }, { on := 0, ground := Ground.phase }, { on := 1, ground := Ground.phase }, { on := 2, ground := Ground.phase }, { on := 3, ground := Ground.phase }, { on := 4, ground := Ground.phase }, { on := 5, ground := Ground.phase }, { on := 6, ground := Ground.phase }, { on := 7, ground := Ground.phase }, { on := 8, ground := Ground.phase }], guard := none }) rfl ?_
      intro K hK
      obtain ⟨b, hb1, q7, hb3⟩ := hA (hd 8 (of_decide_eq_true (by kernel_rfl)))
      rw [hl] at hb3
      have hb4 : Box w b 57 #[.int .i64 0, .int .i64 0, .int .i64 0, .int .i64 0] := hb3
      have q18 : a.tmps[18]? = some (.agg #[.int .i64 x, .int .i64 y, .int .i64 z, .int .i64 kk]) := hS.val 7 18 _ (hd 7 (of_decide_eq_true (by kernel_rfl))) rfl rfl
      have m0 := hb4.cell 0 _ rfl
      have f0 := hb4.frozen 0
      have m1 := hb4.cell 1 _ rfl
      have f1 := hb4.frozen 1
      have m2 := hb4.cell 2 _ rfl
      have f2 := hb4.frozen 2
      have m3 := hb4.cell 3 _ rfl
      have f3 := hb4.frozen 3
      have lt := hb4.lt
      go_simp
      refine hK _ _ ⟨hS.skip 9 rfl, ?_, fun _ => ⟨b, hb1, q7, ?_⟩⟩
      · exact (Below.setCell (Below.setCell (Below.setCell (Below.setCell hb (by omega) _) (by omega) _) (by omega) _) (by omega) _)
      · rw [show (listed.setIfInBounds 9 true).getD 9 false = true by rw [getD_set hls, if_pos rfl]]
        exact ((((hb4.set 0 (.int .i64 x)).set 1 (.int .i64 y)).set 2 (.int .i64 z)).set 3 (.int .i64 kk))
  · intro listed a w hall ⟨hS, hb, hA⟩
    obtain ⟨b, hb1, hb2, hb3⟩ := hA (hall 8 (by show 8 < 10; omega))
    rw [hall 9 (by show 9 < 10; omega), if_pos rfl] at hb3
    have he := hS.frame [(11, factV tk tn tl tc tt v), (12, .int .i64 x), (13, factV tk tn tl tc tt v), (14, .int .i64 y), (15, factV tk tn tl tc tt v), (16, .int .i64 z), (17, .int .i64 kk), (18, .agg #[.int .i64 x, .int .i64 y, .int .i64 z, .int .i64 kk]), (7, .pointer (some ⟨b, 0, none⟩))] rfl (by show List.Pairwise _ [11, 12, 13, 14, 15, 16, 17, 18, 7]; decide) (by simp [hsz0]) (by
        intro p hp
        simp only [List.mem_cons, List.not_mem_nil, or_false] at hp
        rcases hp with rfl | rfl | rfl | rfl | rfl | rfl | rfl | rfl | rfl
        · exact hS.val 0 11 _ (hall 0 (by show 0 < 10; omega)) rfl rfl
        · exact hS.val 1 12 _ (hall 1 (by show 1 < 10; omega)) rfl rfl
        · exact hS.val 2 13 _ (hall 2 (by show 2 < 10; omega)) rfl rfl
        · exact hS.val 3 14 _ (hall 3 (by show 3 < 10; omega)) rfl rfl
        · exact hS.val 4 15 _ (hall 4 (by show 4 < 10; omega)) rfl rfl
        · exact hS.val 5 16 _ (hall 5 (by show 5 < 10; omega)) rfl rfl
        · exact hS.val 6 17 _ (hall 6 (by show 6 < 10; omega)) rfl rfl
        · exact hS.val 7 18 _ (hall 7 (by show 7 < 10; omega)) rfl rfl
        · exact hb2
      )
    rw [he]
    exact hQ w b hb hb1 hb3
end Go.Proofs.YtpkjhlcolgoknaaGreatDoor.Par
