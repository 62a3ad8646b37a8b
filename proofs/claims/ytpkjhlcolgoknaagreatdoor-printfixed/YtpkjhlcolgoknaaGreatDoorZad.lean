/- token.All by its contract; token.Line by its contract; slices.IndexFunc, slices.Clone at tokens. -/
import Derived.Test.YtpkjhlcolgoknaaGreatDoorZac
import Derived.Laws.AppendOwn
import Derived.OwnWalk
import Derived.Lib.SmallJoins
import Derived.Lib.OwnKind
import Derived.Laws.OwnMore
import Derived.Shelf.SlicesE.Clone
import Derived.Shelf.SlicesQ.Load
namespace Go.Proofs.YtpkjhlcolgoknaaGreatDoor.Tok
set_option linter.unusedVariables false
set_option maxRecDepth 100000
open Go.RowKit Go.Shelf
attribute [local go_sem] bget bdrop btake

/-- A token's cells. -/
def tokC (t : Tok) : List Value := [.int .i64 t.1, .int .i64 t.2.1, .int .i64 t.2.2.1, .int .i64 t.2.2.2.1, .string ⟨t.2.2.2.2.toArray⟩]
/-- The slice 'v' is a row of its own, of these tokens. -/
def Row (w : World) (base : Nat) (v : Value) (ts : List Tok) : Prop := w.ownsRow base 71 5 v ts.length (ts.flatMap tokC)

theorem ownsRow_below {w w' : World} {base : Nat} {e : TypeId} {size : Nat} {v : Value} {n : Nat} {xs : List Value} (h : w.ownsRow base e size v n xs) (hb : Below w.heap.size w w') : w'.ownsRow base e size v n xs := by
  refine ⟨h.1, ?_⟩
  rcases h.2 with hn | ⟨g, cap, cur, hv, hg, hc, hr⟩
  · exact Or.inl hn
  · have hlt : g < w.heap.size := by
      rcases Nat.lt_or_ge g w.heap.size with h' | h'
      · exact h'
      · rw [Array.getElem?_eq_none h'] at hc; cases hc
    exact Or.inr ⟨g, cap, cur, hv, hg, by rw [hb.block g hlt]; exact hc, hr⟩

/-- A box of two numbers. -/
structure Sp (W : World) (b : Nat) (x y : Int) : Prop where
  c0 : W.cell? ⟨b, 0, none⟩ = some (.int .i64 x)
  c1 : W.cell? ⟨b, 1, none⟩ = some (.int .i64 y)
  f0 : W.frozen? ⟨b, 0, none⟩ = false
  f1 : W.frozen? ⟨b, 1, none⟩ = false
theorem Sp.lt {W : World} {b : Nat} {x y : Int} (h : Sp W b x y) : b < W.heap.size := by
  rcases Nat.lt_or_ge b W.heap.size with h' | h'
  · exact h'
  · have := h.c0; simp [World.cell?, Array.getElem?_eq_none h'] at this
theorem Sp.next {W W' : World} {b : Nat} {x y : Int} (h : Sp W b x y) (hb : Below W.heap.size W W') : Sp W' b x y :=
  ⟨by rw [hb.cell (p := ⟨b, 0, none⟩) h.lt]; exact h.c0, by rw [hb.cell (p := ⟨b, 1, none⟩) h.lt]; exact h.c1, by rw [hb.frozen (p := ⟨b, 0, none⟩) h.lt]; exact h.f0, by rw [hb.frozen (p := ⟨b, 1, none⟩) h.lt]; exact h.f1⟩

theorem Sp.alloc {W : World} {b : Nat} {x y : Int} (h : Sp W b x y) (o : Obj) : Sp (W.alloc o) b x y := h.next ((Below.refl _ W).alloc (Nat.le_refl _) o)
theorem Sp.fresh (W : World) (x y : Int) : Sp (W.alloc (.cells #[.int .i64 x, .int .i64 y] 27)) W.heap.size x y := by
  refine ⟨?_, ?_, ?_, ?_⟩ <;> simp
theorem Sp.grown {W W' : World} {b : Nat} {x y : Int} {row : Option Nat} (h : Sp W b x y) (hg : W.grownBy W' row) (hne : some b ≠ row) : Sp W' b x y :=
  have e := hg.block b h.lt hne
  ⟨by rw [World.cell?_of_block (w := W) (a := ⟨b, 0, none⟩) e]; exact h.c0, by rw [World.cell?_of_block (w := W) (a := ⟨b, 1, none⟩) e]; exact h.c1,
   by rw [World.frozen?_of_block (w := W) (a := ⟨b, 0, none⟩) e]; exact h.f0, by rw [World.frozen?_of_block (w := W) (a := ⟨b, 1, none⟩) e]; exact h.f1⟩

theorem Sp.put {W : World} {b : Nat} {x y : Int} (h : Sp W b x y) (x' y' : Int) : Sp ((W.setCell ⟨b, 0, none⟩ (.int .i64 x')).setCell ⟨b, 1, none⟩ (.int .i64 y')) b x' y' := by
  have h0 := h.c0
  have h1 := h.c1
  have h2 := h.f0
  have h3 := h.f1
  refine ⟨?_, ?_, ?_, ?_⟩ <;> simp [go_sem, h0, h1, h2, h3]
theorem Sp.other {W : World} {b : Nat} {x y : Int} (h : Sp W b x y) (c o : Nat) (hne : b ≠ c) (u : Value) : Sp (W.setCell ⟨c, o, none⟩ u) b x y := by
  have e : (W.setCell ⟨c, o, none⟩ u).heap[b]? = W.heap[b]? := Below.heap_setCell W _ u b hne
  exact ⟨by rw [World.cell?_of_block (w := W) (a := ⟨b, 0, none⟩) e]; exact h.c0, by rw [World.cell?_of_block (w := W) (a := ⟨b, 1, none⟩) e]; exact h.c1,
   by rw [World.frozen?_of_block (w := W) (a := ⟨b, 0, none⟩) e]; exact h.f0, by rw [World.frozen?_of_block (w := W) (a := ⟨b, 1, none⟩) e]; exact h.f1⟩
theorem Sp.drew {W : World} {b : Nat} {x y : Int} (h : Sp W b x y) : Sp W.drew b x y := ⟨h.c0, h.c1, h.f0, h.f1⟩
theorem Row.le {w : World} {base base' : Nat} {v : Value} {ts : List Tok} (h : Row w base v ts) (hb : base' ≤ base) : Row w base' v ts := Go.Joins.ownsRow_le h hb
theorem Row.snoc {w : World} {base : Nat} {v : Value} {ts : List Tok} {t : Tok} (h : w.ownsRow base 71 5 v (ts.length + 1) (ts.flatMap tokC ++ tokC t)) : Row w base v (ts ++ [t]) := by
  unfold Row
  rw [List.length_append, List.flatMap_append]
  simpa using h

theorem fresh_tok (W : World) (tk tn tl tc : Int) (tt : List UInt8) (b : Nat) (hb : b = W.heap.size) (j : Nat) (u : Value) (h : (tokC (tk, tn, tl, tc, tt))[j]? = some u) : (W.alloc (.cells #[.int .i64 tk, .int .i64 tn, .int .i64 tl, .int .i64 tc, .string ⟨tt.toArray⟩] 71)).cell? ⟨b, j, none⟩ = some u := by
  rw [World.cell?_alloc_at _ _ _ _ hb]
  show (tokC (tk, tn, tl, tc, tt)).toArray[j]? = some u
  rw [List.getElem?_toArray]
  exact h

theorem info27 : ∃ i : TypeInfo, Tryz.prog.info? 71 = some i ∧ i.zero = some (tokV 0 0 0 0 []) ∧ i.size = 5 ∧ i.bytes = 48 := by
  have h : (Tryz.prog.info? 71).map (fun i => (i.zero, i.size, i.bytes)) = some (some (tokV 0 0 0 0 []), 5, 48) := by kernel_rfl
  cases hi : Tryz.prog.info? 71 with
  | none => rw [hi] at h; cases h
  | some i =>
    rw [hi] at h
    have h' := Option.some.inj h
    exact ⟨i, rfl, congrArg (·.1) h', congrArg (·.2.1) h', congrArg (·.2.2) h'⟩

set_option maxHeartbeats 1000000 in
set_option maxRecDepth 100000 in
theorem all_any (l : List UInt8) (hl : l.length ≤ 1048576) (w : World) (hR : Rng w) (ts : List Tok) (li co code : Int) (hA : allOf l = (ts, li, co, code)) :
    Calls Tryz.prog 45 #[.string ⟨l.toArray⟩] w fun e w' => ∃ v, e = .returned (.tuple #[v, .agg #[.int .i64 li, .int .i64 co], .int .i64 code]) ∧ Row w' w.heap.size v ts ∧ Below w.heap.size w w' := by
  have HA : Hid (allOf l = (ts, li, co, code)) := hA
  clear hA
  obtain ⟨i0, hi, hz0, hz1, hz2⟩ := info27
  have hll : ¬ (1048576 < (l.length : Int)) := by omega
  go_enter Tryz.func45, Tryz.ntmps45
  go_wp2
  go_loopw [5, 6] (fun v x wr => ∃ (a : Nat) (li co : Int) (acc : List Tok), a ≤ l.length ∧ acc.length ≤ a ∧ x = .int .i64 a ∧ 1 ≤ li ∧ li ≤ 1 + (a : Int) ∧ 1 ≤ co ∧ co ≤ 1 + (a : Int) ∧ Sp wr w.heap.size 0 0 ∧ Sp wr (w.heap.size + 1) li co ∧ Row wr (w.heap.size + 2) v acc ∧ Below w.heap.size w wr ∧ Hid (Far l a li co acc)) (fun _ x _ => l.length - (intOf x).toNat)
  case atStart =>
    refine ⟨0, 1, 1, [], Nat.zero_le _, Nat.le_refl _, rfl, by omega, by omega, by omega, by omega, ⟨?_, ?_, ?_, ?_⟩, ⟨?_, ?_, ?_, ?_⟩, World.ownsRow_nil _ _ _ _, ((Below.refl _ w).alloc (Nat.le_refl _) _).alloc (by simp) _, Far.zero l⟩
    all_goals simp
  case round =>
    obtain ⟨a, li1, co1, acc, ha, hacc, rfl, l1, l2, l3, l4, s0, s1, row, hB, HF⟩ := hrel
    have hn := nextL_ok l a ha li1 co1 l1 l2 l3 l4 _ rfl
    generalize hN : nextL l a li1 co1 = r at hn
    have HN : Hid (nextL l a li1 co1 = r) := hN
    clear hN
    obtain ⟨⟨tk, tn, tl, tc, tt⟩, b, li2, co2, cd⟩ := r
    simp only at hn
    have hRr := hR.next hB
    rcases hn with ⟨rfl, b', rfl, hb1, hb2, m1, m2, m3, m4⟩ | rfl | rfl
    · have s1c := s1.c0
      have s1d := s1.c1
      go_wp2_with fail
      refine (next_any l hl a ha li1 co1 (by omega) (by omega) (by omega) (by omega) _ hRr).mono ?_
      rintro e w1 ⟨rfl, hb⟩
      rw [HN.out]
      have hB1 := hB.trans (hb.mono hB.size)
      have t0 := s0.next hb
      have t1 := s1.next hb
      have row1 := ownsRow_below row hb
      have hz := hb.size
      have hz' := hB.size
      have own := row.lt
      clear row s1c s1d hb
      go_wp2_with (at_builtin; refine wpList_append_own _ rfl _ _ 60 rfl (w.heap.size + 2) 71 i0 (tokV 0 0 0 0 []) 5 48 Tryz.underlying60 hi hz0 hz1 hz2 rfl (by omega) _ _ _ rfl (((row1.alloc _).alloc _).alloc _) ⟨w1.heap.size + 1 + 1, 0, none⟩ 1 1 (tokC (tk, tn, tl, tc, tt)) rfl ?qc1 ?qc2 ?qc3 ?qc4 ?qc5 ?qc6 ?_)
      case qc1 => rfl
      case qc2 =>
        intro j u hj
        rw [Addr.add_lit, Nat.zero_add]
        refine fresh_tok _ tk tn tl tc tt _ ?_ j u hj
        simp
      case qc3 => intro u hu; simp [tokC] at hu; rcases hu with rfl | rfl | rfl | rfl | rfl <;> rfl
      case qc4 => unfold maxLen; omega
      case qc5 => omega
      case qc6 => have := s1.lt; simp; omega
      intro v' w2 hown hgrow hnil
      have hne : ∀ k, k = w.heap.size ∨ k = w.heap.size + 1 ∨ w1.heap.size ≤ k → some k ≠ Value.ownBlock u5 := by
        intro k hk e
        have := own k e.symm
        omega
      have q0 : Sp w2 w.heap.size 0 0 := (((t0.alloc _).alloc _).alloc _).grown hgrow (hne _ (Or.inl rfl))
      have q1 : Sp w2 (w.heap.size + 1) li1 co1 := (((t1.alloc _).alloc _).alloc _).grown hgrow (hne _ (Or.inr (Or.inl rfl)))
      have q2 : Sp w2 (w1.heap.size + 1) li2 co2 := by
        have h := ((Sp.fresh (w1.alloc (.cells #[.int .i64 tk, .int .i64 tn, .int .i64 tl, .int .i64 tc, .string ⟨tt.toArray⟩] 71)) li2 co2).alloc (.cells #[.int .i64 tk, .int .i64 tn, .int .i64 tl, .int .i64 tc, .string ⟨tt.toArray⟩] 71)).grown hgrow (hne _ (by simp))
        simpa using h
      have hB2 : Below w.heap.size w w2 := (((hB1.alloc (by omega) _).alloc (by simp; omega) _).alloc (by simp; omega) _).grown hgrow (by simp; omega) (fun k hk => by have := own k hk; omega)
      have e0 := q1.c0
      have e1 := q1.c1
      have e2 := q1.f0
      have e3 := q1.f1
      have g0 := q2.c0
      have g1 := q2.c1
      clear t0 t1 row1 hgrow hnil hB1 own hne
      go_wp2_with fail
      go_region
      go_wp2
      go_roundw
      case rel =>
        refine ⟨b', li2, co2, acc ++ [(tk, tn, tl, tc, tt)], hb2, by simp; omega, rfl, m1, m2, m3, m4, ?_, ?_, ?_, ?_, HF.out.step HN.out hb1 hb2⟩
        · exact ((q0.other _ _ (by omega) _).other _ _ (by omega) _).drew
        · exact (q1.put li2 co2).drew
        · exact (ownsRow_setCell_below (ownsRow_setCell_below (Row.snoc hown) (by simp) _) (by simp) _).drew
        · exact ((hB2.setCell (by simp) _).setCell (by simp) _).drew
      case measure => simp [intOf]; omega
    · have s1c := s1.c0
      have s1d := s1.c1
      have hfin := HF.out.none HN.out
      rw [HA.out] at hfin
      have HE : Hid ((ts, li, co, code) = (acc, li2, co2, 0)) := hfin
      clear hfin
      go_wp2_with fail
      refine (next_any l hl a ha li1 co1 (by omega) (by omega) (by omega) (by omega) _ hRr).mono ?_
      rintro e w1 ⟨rfl, hb⟩
      rw [HN.out]
      have hB1 := hB.trans (hb.mono hB.size)
      have t0 := s0.next hb
      have row1 := ownsRow_below row hb
      have hz := hb.size
      have hz' := hB.size
      clear row s1c s1d hb
      have k0 := t0.lt
      have e0 := t0.c0
      have e1 := t0.c1
      have e2 := t0.f0
      have e3 := t0.f1
      go_wp2_with fail
      go_region
      go_wp2_with fail
      refine bodyPost_ret (v := .tuple #[u5, .agg #[.int .i64 li2, .int .i64 co2], .int .i64 0]) (by simp [results, Tryz.results45, go_sem, e0, e1, k0]) rfl ⟨u5, ?_, ?_, ?_⟩
      · have h := HE.out
        simp only [Prod.mk.injEq] at h
        obtain ⟨rfl, rfl, rfl, rfl⟩ := h
        rfl
      · have h := congrArg Prod.fst HE.out
        simp only at h
        rw [h]
        exact Row.le (((ownsRow_setCell_below (ownsRow_setCell_below row1 (by simp) _) (by simp) _).alloc _).alloc _).drew (by omega)
      · exact ((((hB1.setCell (by simp) _).setCell (by simp) _).alloc (by simp; omega) _).alloc (by simp; omega) _).drew
    · have s1c := s1.c0
      have s1d := s1.c1
      have hfin := HF.out.text HN.out
      rw [HA.out] at hfin
      have HE : Hid ((ts, li, co, code) = (acc, li2, co2, 2)) := hfin
      clear hfin
      go_wp2_with fail
      refine (next_any l hl a ha li1 co1 (by omega) (by omega) (by omega) (by omega) _ hRr).mono ?_
      rintro e w1 ⟨rfl, hb⟩
      rw [HN.out]
      have hB1 := hB.trans (hb.mono hB.size)
      have t0 := s0.next hb
      have row1 := ownsRow_below row hb
      have hz := hb.size
      have hz' := hB.size
      clear row s1c s1d hb
      have k0 := t0.lt
      have e0 := t0.c0
      have e1 := t0.c1
      have e2 := t0.f0
      have e3 := t0.f1
      go_wp2_with fail
      go_region
      go_wp2_with fail
      refine bodyPost_ret (v := .tuple #[u5, .agg #[.int .i64 li2, .int .i64 co2], .int .i64 2]) (by simp [results, Tryz.results45, go_sem, e0, e1, k0]) rfl ⟨u5, ?_, ?_, ?_⟩
      · have h := HE.out
        simp only [Prod.mk.injEq] at h
        obtain ⟨rfl, rfl, rfl, rfl⟩ := h
        rfl
      · have h := congrArg Prod.fst HE.out
        simp only at h
        rw [h]
        exact Row.le (((ownsRow_setCell_below (ownsRow_setCell_below row1 (by simp) _) (by simp) _).alloc _).alloc _).drew (by omega)
      · exact ((((hB1.setCell (by simp) _).setCell (by simp) _).alloc (by simp; omega) _).alloc (by simp; omega) _).drew
end Go.Proofs.YtpkjhlcolgoknaaGreatDoor.Tok

namespace Go.Proofs.YtpkjhlcolgoknaaGreatDoor.Tok
set_option linter.unusedVariables false
set_option maxRecDepth 100000
open Go.RowKit Go.Shelf
attribute [local go_sem] bget bdrop btake

/-- From the place 'off' of block 'b' on there lie these tokens. -/
def Toks (w : World) (b off : Nat) (ts : List Tok) : Prop := b < w.heap.size ∧ ∀ j u, (ts.flatMap tokC)[j]? = some u → w.cell? ⟨b, off + j, none⟩ = some u
theorem Toks.next {w w' : World} {b off : Nat} {ts : List Tok} (h : Toks w b off ts) (hb : Below w.heap.size w w') : Toks w' b off ts :=
  ⟨Nat.lt_of_lt_of_le h.1 hb.size, fun j u hj => by rw [hb.cell (p := ⟨b, off + j, none⟩) h.1]; exact h.2 j u hj⟩
theorem flat_len (ts : List Tok) : (ts.flatMap tokC).length = ts.length * 5 := by
  induction ts with
  | nil => rfl
  | cons t r ih => rw [List.flatMap_cons, List.length_append, ih]; simp [tokC]; omega
theorem flat_at : ∀ (ts : List Tok) (k : Nat) (hk : k < ts.length) (i : Nat), i < 5 → (ts.flatMap tokC)[k * 5 + i]? = (tokC ts[k])[i]?
  | [], k, hk, _, _ => by simp at hk
  | t :: r, 0, _, i, hi => by
    rw [List.flatMap_cons, List.getElem?_append_left (by simp [tokC]; omega)]; simp
  | t :: r, k + 1, hk, i, hi => by
    rw [List.flatMap_cons, List.getElem?_append_right (by simp [tokC]; omega)]
    have e : (k + 1) * 5 + i - (tokC t).length = k * 5 + i := by simp [tokC]; omega
    rw [e, flat_at r k (by simpa using hk) i hi]; rfl
/-- The five cells of one token. -/
structure TokAt (w : World) (b o : Nat) (t : Tok) : Prop where
  c0 : w.cell? ⟨b, o, none⟩ = some (.int .i64 t.1)
  c1 : w.cell? ⟨b, o + 1, none⟩ = some (.int .i64 t.2.1)
  c2 : w.cell? ⟨b, o + 2, none⟩ = some (.int .i64 t.2.2.1)
  c3 : w.cell? ⟨b, o + 3, none⟩ = some (.int .i64 t.2.2.2.1)
  c4 : w.cell? ⟨b, o + 4, none⟩ = some (.string ⟨t.2.2.2.2.toArray⟩)
theorem Toks.at {w : World} {b off : Nat} {ts : List Tok} (h : Toks w b off ts) (k : Nat) (hk : k < ts.length) : TokAt w b (off + k * 5) ts[k] := by
  have f := flat_at ts k hk
  have g : ∀ i, i < 5 → ∀ v, (tokC ts[k])[i]? = some v → w.cell? ⟨b, off + k * 5 + i, none⟩ = some v := fun i hi v hv => by
    rw [Nat.add_assoc]; exact h.2 _ v (by rw [f i hi]; exact hv)
  exact ⟨g 0 (by omega) _ rfl, g 1 (by omega) _ rfl, g 2 (by omega) _ rfl, g 3 (by omega) _ rfl, g 4 (by omega) _ rfl⟩

def endB (t : Tok) : Bool := t.1 == 3
theorem endsLine_any (tk tn tl tc : Int) (tt : List UInt8) (w : World) : Calls Tryz.prog 108 #[tokV tk tn tl tc tt] w fun e w' => e = .returned (.bool (tk == 3)) ∧ Below w.heap.size w w' := by
  go_enter Tryz.func108, Tryz.ntmps108
  go_wp2
  go_ret
  exact ⟨rfl, (Below.refl _ w).alloc (Nat.le_refl _) _⟩

/-- How many tokens stand ahead of the first one that ends a line; all, if there is none. -/
def lineLen (ts : List Tok) : Nat := (ts.takeWhile fun t => !endB t).length
theorem lineLen_le (ts : List Tok) : lineLen ts ≤ ts.length := (List.takeWhile_sublist _).length_le
theorem lineLen_cons (t : Tok) (r : List Tok) : lineLen (t :: r) = if endB t then 0 else lineLen r + 1 := by
  unfold lineLen; rw [List.takeWhile_cons]; cases endB t <;> simp
theorem lineLen_hit : ∀ (ts : List Tok) (k : Nat) (hk : k < ts.length), (∀ j (hj : j < k), endB (ts[j]'(by omega)) = false) → endB ts[k] = true → lineLen ts = k
  | [], k, hk, _, _ => by simp at hk
  | c :: r, 0, hk, _, h => by rw [lineLen_cons, if_pos (by exact h)]
  | c :: r, k + 1, hk, ha, h => by
    rw [lineLen_cons, if_neg (by have := ha 0 (by omega); simpa using this), lineLen_hit r k (by simpa using hk) (fun j hj => ha (j + 1) (by omega)) (by simpa using h)]
theorem lineLen_all : ∀ (ts : List Tok), (∀ j (hj : j < ts.length), endB ts[j] = false) → lineLen ts = ts.length
  | [], _ => rfl
  | c :: r, ha => by
    rw [lineLen_cons, if_neg (by have := ha 0 (by simp); simpa using this), lineLen_all r (fun j hj => ha (j + 1) (by simpa using hj))]; simp

def idxOf (ts : List Tok) : Int := if lineLen ts < ts.length then (lineLen ts : Int) else -1
set_option maxHeartbeats 1000000 in
theorem indexFunc_any (ts : List Tok) (b off cap : Nat) (hlen : ts.length ≤ 1048576) (w : World) (hT : Toks w b off ts) :
    Calls Tryz.prog 107 #[.slice (some ⟨b, off, none⟩) ts.length cap, .func (.func 108) #[] #[]] w fun e w' => e = .returned (.int .i64 (idxOf ts)) ∧ Below w.heap.size w w' := by
  have eg : ∀ args w, (callFunc 108 args).run Tryz.prog w = .ok (.enter 108 args) w := fun _ _ => rfl
  have HT : Hid (Toks w b off ts) := hT
  clear hT
  go_enter Tryz.func107, Tryz.ntmps107
  go_wp2
  go_loopw [5, 8] (fun _ s wr => ∃ k : Nat, k ≤ ts.length ∧ s = .int .i64 k ∧ Below w.heap.size w wr ∧ Hid (∀ j (hj : j < ts.length), j < k → endB ts[j] = false)) (fun _ s _ => ts.length - (intOf s).toNat)
  case atStart => exact ⟨0, Nat.zero_le _, rfl, Below.refl _ w, by intro j _ hj; omega⟩
  case round =>
    obtain ⟨k, hk, rfl, hB, HA⟩ := hrel
    by_cases hlt : k < ts.length
    · have hltz : (k : Int) < (ts.length : Int) := by omega
      have ta := (HT.out.next hB).at k hlt
      generalize hy : ts[k] = y at ta
      have HY : Hid (ts[k] = y) := hy
      clear hy
      obtain ⟨tk, tn, tl, tc, tt⟩ := y
      obtain ⟨c0, c1, c2, c3, c4⟩ := ta
      simp only at c0 c1 c2 c3 c4
      cases hq : (tk == 3) with
      | true =>
        have HQ : Hid ((tk == 3) = true) := hq
        clear hq
        go_wp2_with fail
        refine (endsLine_any tk tn tl tc tt _).mono ?_
        rintro e w1 ⟨rfl, hb⟩
        rw [HQ.out]
        go_wp2
        go_ret
        have hh : lineLen ts = k := lineLen_hit ts k hlt (fun j hj => HA.out j (by omega) hj) (by rw [HY.out]; exact HQ.out)
        exact ⟨ret_int (by unfold idxOf; rw [hh, if_pos hlt]), hB.trans (hb.mono hB.size)⟩
      | false =>
        have HQ : Hid ((tk == 3) = false) := hq
        clear hq
        go_wp2_with fail
        refine (endsLine_any tk tn tl tc tt _).mono ?_
        rintro e w1 ⟨rfl, hb⟩
        rw [HQ.out]
        go_wp2
        go_roundw
        case rel =>
          refine ⟨k + 1, by omega, by go_num, hB.trans (hb.mono hB.size), ?_⟩
          show ∀ j (hj : j < ts.length), j < k + 1 → endB ts[j] = false
          intro j hj h
          rcases Nat.lt_or_ge j k with h' | h'
          · exact HA.out j hj h'
          · have e : j = k := by omega
            subst e; rw [HY.out]; exact HQ.out
        case measure => simp [intOf]; omega
    · have hltz : ¬ (k : Int) < (ts.length : Int) := by omega
      go_wp2
      go_ret
      have hh : lineLen ts = ts.length := lineLen_all ts (fun j hj => HA.out j hj (by omega))
      exact ⟨ret_int (by unfold idxOf; rw [hh, if_neg (by omega)]), hB⟩

set_option maxHeartbeats 1000000 in
set_option maxRecDepth 100000 in
theorem clone_any (ts : List Tok) (b off cap : Nat) (hlen : ts.length ≤ 1048576) (w : World) (hT : Toks w b off ts) :
    Calls Tryz.prog 109 #[.slice (some ⟨b, off, none⟩) ts.length cap] w fun e w' => ∃ v, e = .returned v ∧ Row w' w.heap.size v ts ∧ Below w.heap.size w w' := by
  have q22 : ∀ (w : World) (a : Option Addr) (n c n' c' : Nat), (binOp .eql 60 (.slice a n c) (.slice none n' c')).run Tryz.prog w = .ok (.bool a.isNone) w := fun w a n c n' c' => Lib.run_eql_slice_nil w _ _ a n c n' c' Tryz.underlying60
  obtain ⟨i0, hi, hz0, hz1, hz2⟩ := info27
  have HT : Hid (Toks w b off ts) := hT
  clear hT
  go_enter Tryz.func109, Tryz.ntmps109
  go_wp2_with (at_builtin; refine wpList_append_own _ rfl _ _ 60 rfl w.heap.size 71 i0 (tokV 0 0 0 0 []) 5 48 Tryz.underlying60 hi hz0 hz1 hz2 rfl (by omega) _ _ _ rfl (World.ownsRow_made w #[] 0 (Nat.le_refl _) (Nat.zero_le _) (by simp)) ⟨b, off, none⟩ ts.length cap (ts.flatMap tokC) rfl ?qc1 ?qc2 ?qc3 ?qc4 ?qc5 ?qc6 ?_)
  case qc1 => exact flat_len ts
  case qc2 =>
    intro j u hj
    rw [Addr.add_lit]
    exact Lib.cell?_alloc_some _ (HT.out.2 j u hj)
  case qc3 =>
    intro u hu
    obtain ⟨t, _, hu⟩ := List.mem_flatMap.1 hu
    simp [tokC] at hu; rcases hu with rfl | rfl | rfl | rfl | rfl <;> rfl
  case qc4 => unfold maxLen; omega
  case qc5 => omega
  case qc6 => simp
  intro v' w1 hown hgrow hnil
  go_wp2
  go_ret
  refine ⟨v', rfl, by unfold Row; simpa using hown, ?_⟩
  exact ((Below.refl _ w).alloc (Nat.le_refl _) _).grown hgrow (by simp) (by intro k hk; simp [Value.ownBlock] at hk; omega)


theorem Toks.drop {w : World} {b off : Nat} {ts : List Tok} (h : Toks w b off ts) (a : Nat) : Toks w b (off + a * 5) (ts.drop a) := by
  refine ⟨h.1, fun j u hj => ?_⟩
  rw [Nat.add_assoc]
  refine h.2 _ u ?_
  have e : (ts.flatMap tokC).drop (a * 5) = (ts.drop a).flatMap tokC := by
    rcases Nat.lt_or_ge a ts.length with hlt | hge
    · conv => lhs; rw [← List.take_append_drop a ts, List.flatMap_append]
      rw [List.drop_append_of_le_length (by rw [flat_len]; simp; omega), List.drop_of_length_le (by rw [flat_len]; simp; omega)]
      simp
    · rw [List.drop_of_length_le hge, List.drop_of_length_le (by rw [flat_len]; omega)]; rfl
  rw [← e, List.getElem?_drop] at hj
  exact hj
theorem Toks.take {w : World} {b off : Nat} {ts : List Tok} (h : Toks w b off ts) (n : Nat) : Toks w b off (ts.take n) := by
  refine ⟨h.1, fun j u hj => h.2 j u ?_⟩
  have e : ts.flatMap tokC = (ts.take n).flatMap tokC ++ (ts.drop n).flatMap tokC := by rw [← List.flatMap_append, List.take_append_drop]
  rw [e, List.getElem?_append_left]
  · exact hj
  · exact (List.getElem?_eq_some_iff.1 hj).1

theorem indexFunc_n (ts : List Tok) (n : Nat) (hn : ts.length = n) (b off cap : Nat) (hlen : ts.length ≤ 1048576) (w : World) (hT : Toks w b off ts) :
    Calls Tryz.prog 107 #[.slice (some ⟨b, off, none⟩) n cap, .func (.func 108) #[] #[]] w fun e w' => e = .returned (.int .i64 (idxOf ts)) ∧ Below w.heap.size w w' := by
  subst hn; exact indexFunc_any ts b off cap hlen w hT
theorem clone_n (ts : List Tok) (n : Nat) (hn : ts.length = n) (b off cap : Nat) (hlen : ts.length ≤ 1048576) (w : World) (hT : Toks w b off ts) :
    Calls Tryz.prog 109 #[.slice (some ⟨b, off, none⟩) n cap] w fun e w' => ∃ v, e = .returned v ∧ Row w' w.heap.size v ts ∧ Below w.heap.size w w' := by
  subst hn; exact clone_any ts b off cap hlen w hT

set_option maxHeartbeats 400000 in
theorem line_out (ao : Option Addr) (n cap : Nat) (hn : n ≤ maxLen) (at' : Int) (h : at' < 0 ∨ (n : Int) ≤ at') (w : World) :
    Calls Tryz.prog 74 #[.slice ao n cap, .int .i64 at'] w fun e w' => e = .returned (.tuple #[.slice none 0 0, .int .i64 at']) ∧ w' = w := by
  unfold maxLen at hn
  by_cases h0 : at' < 0
  · clear h
    go_enter Tryz.func74, Tryz.ntmps74
    go_wp2
    go_ret2
    exact ⟨rfl, rfl⟩
  · have h1 : (n : Int) ≤ at' := by omega
    clear h
    go_enter Tryz.func74, Tryz.ntmps74
    go_wp2
    go_ret2
    exact ⟨rfl, rfl⟩

set_option maxHeartbeats 1000000 in
theorem line_mid (ts : List Tok) (b off cap : Nat) (hlen : ts.length ≤ 1048576) (hcap : ts.length ≤ cap) (hcm : cap ≤ maxLen) (a : Nat) (ha : a < ts.length) (k : Nat) (HK : Hid (lineLen (ts.drop a) = k)) (hk : a + k < ts.length) (w : World) (hT : Toks w b off ts) :
    Calls Tryz.prog 74 #[.slice (some ⟨b, off, none⟩) ts.length cap, .int .i64 a] w fun e w' => ∃ v, e = .returned (.tuple #[v, .int .i64 (a + k + 1)]) ∧ Row w' w.heap.size v ((ts.drop a).take k) ∧ Below w.heap.size w w' := by
  have h0 : ¬ ((a : Int) < 0) := by omega
  have h1 : ¬ ((ts.length : Int) ≤ a) := by omega
  unfold maxLen at hcm
  have HT : Hid (Toks w b off ts) := hT
  clear hT
  have hdl : (ts.drop a).length = ts.length - a := List.length_drop
  have HD : Hid ((ts.drop a).length = ts.length - a) := hdl
  clear hdl
  have HI : Hid (idxOf (ts.drop a) = k) := by
    show idxOf (ts.drop a) = k
    unfold idxOf; rw [HK.out, HD.out, if_pos (by omega)]
  go_enter Tryz.func74, Tryz.ntmps74
  go_wp2_with fail
  refine (indexFunc_n (ts.drop a) _ HD.out _ _ _ (by rw [HD.out]; omega) _ (HT.out.drop a)).mono ?_
  rintro e w1 ⟨rfl, hb⟩
  rw [HI.out]
  have T1 := HT.out.next hb
  have HT1 : Hid (Toks w1 b off ts) := T1
  clear T1
  go_wp2_with fail
  refine (clone_n ((ts.drop a).take k) _ (by rw [List.length_take, HD.out]; omega) _ _ _ (by rw [List.length_take, HD.out]; omega) _ ((HT1.out.drop a).take k)).mono ?_
  rintro e w2 ⟨v, rfl, hr, hb2⟩
  go_wp2
  go_ret2
  exact ⟨v, rfl, Row.le hr hb.size, hb.trans (hb2.mono hb.size)⟩

set_option maxHeartbeats 1000000 in
theorem line_last (ts : List Tok) (b off cap : Nat) (hlen : ts.length ≤ 1048576) (hcap : ts.length ≤ cap) (hcm : cap ≤ maxLen) (a : Nat) (ha : a < ts.length) (HK : Hid (lineLen (ts.drop a) = ts.length - a)) (w : World) (hT : Toks w b off ts) :
    Calls Tryz.prog 74 #[.slice (some ⟨b, off, none⟩) ts.length cap, .int .i64 a] w fun e w' => ∃ v, e = .returned (.tuple #[v, .int .i64 ts.length]) ∧ Row w' w.heap.size v (ts.drop a) ∧ Below w.heap.size w w' := by
  have h0 : ¬ ((a : Int) < 0) := by omega
  have h1 : ¬ ((ts.length : Int) ≤ a) := by omega
  unfold maxLen at hcm
  have HT : Hid (Toks w b off ts) := hT
  clear hT
  have hdl : (ts.drop a).length = ts.length - a := List.length_drop
  have HD : Hid ((ts.drop a).length = ts.length - a) := hdl
  clear hdl
  have HI : Hid (idxOf (ts.drop a) = -1) := by
    show idxOf (ts.drop a) = -1
    unfold idxOf; rw [HK.out, HD.out, if_neg (by omega)]
  go_enter Tryz.func74, Tryz.ntmps74
  go_wp2_with fail
  refine (indexFunc_n (ts.drop a) _ HD.out _ _ _ (by rw [HD.out]; omega) _ (HT.out.drop a)).mono ?_
  rintro e w1 ⟨rfl, hb⟩
  rw [HI.out]
  have T1 := HT.out.next hb
  have HT1 : Hid (Toks w1 b off ts) := T1
  clear T1
  go_wp2_with fail
  refine (clone_n (ts.drop a) _ HD.out _ _ _ (by rw [HD.out]; omega) _ (HT1.out.drop a)).mono ?_
  rintro e w2 ⟨v, rfl, hr, hb2⟩
  go_wp2
  go_ret2
  exact ⟨v, rfl, Row.le hr hb.size, hb.trans (hb2.mono hb.size)⟩

/-- The tokens of the line from a place on, and where the next line begins. -/
def lineTs (ts : List Tok) (a : Nat) : List Tok := (ts.drop a).take (lineLen (ts.drop a))
def lineNext (ts : List Tok) (a : Nat) : Int := if a + lineLen (ts.drop a) < ts.length then (a : Int) + lineLen (ts.drop a) + 1 else ts.length
theorem line_in (ts : List Tok) (b off cap : Nat) (hlen : ts.length ≤ 1048576) (hcap : ts.length ≤ cap) (hcm : cap ≤ maxLen) (a : Nat) (ha : a < ts.length) (w : World) (hT : Toks w b off ts) :
    Calls Tryz.prog 74 #[.slice (some ⟨b, off, none⟩) ts.length cap, .int .i64 a] w fun e w' => ∃ v, e = .returned (.tuple #[v, .int .i64 (lineNext ts a)]) ∧ Row w' w.heap.size v (lineTs ts a) ∧ Below w.heap.size w w' := by
  have hle := lineLen_le (ts.drop a)
  rw [List.length_drop] at hle
  unfold lineTs lineNext
  by_cases h : a + lineLen (ts.drop a) < ts.length
  · rw [if_pos h]
    exact line_mid ts b off cap hlen hcap hcm a ha _ rfl h w hT
  · rw [if_neg h, List.take_of_length_le (by rw [List.length_drop]; omega)]
    exact line_last ts b off cap hlen hcap hcm a ha (show lineLen (ts.drop a) = ts.length - a by omega) w hT
/-- A row that a call made is tokens from its block on, or it is nil. -/
theorem Row.toks {w : World} {base : Nat} {v : Value} {ts : List Tok} (h : Row w base v ts) : (v = .slice none 0 0 ∧ ts = []) ∨ ∃ g cap, v = .slice (some ⟨g, 0, none⟩) ts.length cap ∧ base ≤ g ∧ g < w.heap.size ∧ ts.length ≤ cap ∧ cap ≤ maxLen ∧ Toks w g 0 ts := by
  have h2 := h
  rcases h.2 with ⟨hv, hn⟩ | ⟨g, cap, cur, hv, hb, hc, hn, hm, _, _⟩
  · exact Or.inl ⟨hv, List.length_eq_zero_iff.1 hn⟩
  · subst hv
    have hlt : g < w.heap.size := (Array.getElem?_eq_some_iff.1 hc).1
    refine Or.inr ⟨g, cap, rfl, hb, hlt, hn, hm, hlt, fun j u hj => ?_⟩
    have := World.ownsRow.cells h2 rfl j u hj
    rw [Addr.add_lit] at this
    exact this
end Go.Proofs.YtpkjhlcolgoknaaGreatDoor.Tok
