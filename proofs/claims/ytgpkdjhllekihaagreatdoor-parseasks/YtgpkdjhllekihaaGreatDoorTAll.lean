/- token.All by its contract. -/
import Derived.Test.YtgpkdjhllekihaaGreatDoorTNext
import Derived.Laws.AppendOwn
import Derived.OwnWalk
import Derived.Lib.SmallJoins
import Derived.Lib.OwnKind
namespace Go.Proofs.YtgpkdjhllekihaaGreatDoor.Tok
set_option linter.unusedVariables false
set_option maxRecDepth 100000
open Go.RowKit Go.Shelf
attribute [local go_sem] bget bdrop btake

/-- A token's cells. -/
def tokC (t : Tok) : List Value := [.int .i64 t.1, .int .i64 t.2.1, .int .i64 t.2.2.1, .int .i64 t.2.2.2.1, .string ⟨t.2.2.2.2.toArray⟩]
/-- The slice 'v' is a row of its own, of these tokens. -/
def Row (w : World) (base : Nat) (v : Value) (ts : List Tok) : Prop := w.ownsRow base 60 5 v ts.length (ts.flatMap tokC)

theorem ownsRow_below {w w' : World} {base : Nat} {e : TypeId} {size : Nat} {v : Value} {n : Nat} {xs : List Value} (h : w.ownsRow base e size v n xs) (hb : Below w.heap.size w w') : w'.ownsRow base e size v n xs := by
 refine ⟨h.1, ?_⟩
 rcases h.2 with hn | ⟨g, cap, cur, hv, hg, hc, hr⟩
 ·exact Or.inl hn
 ·have hlt : g < w.heap.size := by
   rcases Nat.lt_or_ge g w.heap.size with h' | h'
   ·exact h'
   ·rw [Array.getElem?_eq_none h'] at hc; cases hc
  exact Or.inr ⟨g, cap, cur, hv, hg, by rw [hb.block g hlt]; exact hc, hr⟩

/-- A box of two numbers. -/
structure Sp (W : World) (b : Nat) (x y : Int) : Prop where
 c0 : W.cell? ⟨b, 0, none⟩ = some (.int .i64 x)
 c1 : W.cell? ⟨b, 1, none⟩ = some (.int .i64 y)
 f0 : W.frozen? ⟨b, 0, none⟩ = false
 f1 : W.frozen? ⟨b, 1, none⟩ = false
theorem Sp.lt {W : World} {b : Nat} {x y : Int} (h : Sp W b x y) : b < W.heap.size := by
 rcases Nat.lt_or_ge b W.heap.size with h' | h'
 ·exact h'
 ·have := h.c0; simp [World.cell?, Array.getElem?_eq_none h'] at this
theorem Sp.next {W W' : World} {b : Nat} {x y : Int} (h : Sp W b x y) (hb : Below W.heap.size W W') : Sp W' b x y :=
 ⟨by rw [hb.cell (p := ⟨b, 0, none⟩) h.lt]; exact h.c0, by rw [hb.cell (p := ⟨b, 1, none⟩) h.lt]; exact h.c1, by rw [hb.frozen (p := ⟨b, 0, none⟩) h.lt]; exact h.f0, by rw [hb.frozen (p := ⟨b, 1, none⟩) h.lt]; exact h.f1⟩

theorem Sp.alloc {W : World} {b : Nat} {x y : Int} (h : Sp W b x y) (o : Obj) : Sp (W.alloc o) b x y := h.next ((Below.refl _ W).alloc (Nat.le_refl _) o)
theorem Sp.fresh (W : World) (x y : Int) : Sp (W.alloc (.cells #[.int .i64 x, .int .i64 y] 27)) W.heap.size x y := by
 refine ⟨?_, ?_, ?_, ?_⟩ <;> simp
theorem Sp.grown {W W' : World} {b : Nat} {x y : Int} {row : Option Nat} (h : Sp W b x y) (hg : W.grownBy W' row) (hne : some b ≠ row) : Sp W' b x y :=
 have e := hg.block b h.lt hne
 ⟨by rw [World.cell?_of_block (w := W) (a := ⟨b, 0, none⟩) e]; exact h.c0, by rw [World.cell?_of_block (w := W) (a := ⟨b, 1, none⟩) e]; exact h.c1,
  by rw [World.frozen?_of_block (w := W) (a := ⟨b, 0, none⟩) e]; exact h.f0, by rw [World.frozen?_of_block (w := W) (a := ⟨b, 1, none⟩) e]; exact h.f1⟩

theorem Sp.put {W : World} {b : Nat} {x y : Int} (h : Sp W b x y) (x' y' : Int) : Sp ((W.setCell ⟨b, 0, none⟩ (.int .i64 x')).setCell ⟨b, 1, none⟩ (.int .i64 y')) b x' y' := by
 have h0 := h.c0
 have h1 := h.c1
 have h2 := h.f0
 have h3 := h.f1
 refine ⟨?_, ?_, ?_, ?_⟩ <;> simp [go_sem, h0, h1, h2, h3]
theorem Sp.other {W : World} {b : Nat} {x y : Int} (h : Sp W b x y) (c o : Nat) (hne : b ≠ c) (u : Value) : Sp (W.setCell ⟨c, o, none⟩ u) b x y := by
 have e : (W.setCell ⟨c, o, none⟩ u).heap[b]? = W.heap[b]? := Below.heap_setCell W _ u b hne
 exact ⟨by rw [World.cell?_of_block (w := W) (a := ⟨b, 0, none⟩) e]; exact h.c0, by rw [World.cell?_of_block (w := W) (a := ⟨b, 1, none⟩) e]; exact h.c1,
  by rw [World.frozen?_of_block (w := W) (a := ⟨b, 0, none⟩) e]; exact h.f0, by rw [World.frozen?_of_block (w := W) (a := ⟨b, 1, none⟩) e]; exact h.f1⟩
theorem Sp.drew {W : World} {b : Nat} {x y : Int} (h : Sp W b x y) : Sp W.drew b x y := ⟨h.c0, h.c1, h.f0, h.f1⟩
theorem Row.le {w : World} {base base' : Nat} {v : Value} {ts : List Tok} (h : Row w base v ts) (hb : base' ≤ base) : Row w base' v ts := Go.Joins.ownsRow_le h hb
theorem Row.snoc {w : World} {base : Nat} {v : Value} {ts : List Tok} {t : Tok} (h : w.ownsRow base 60 5 v (ts.length + 1) (ts.flatMap tokC ++ tokC t)) : Row w base v (ts ++ [t]) := by
 unfold Row
 rw [List.length_append, List.flatMap_append]
 simpa using h

theorem fresh_tok (W : World) (tk tn tl tc : Int) (tt : List UInt8) (b : Nat) (hb : b = W.heap.size) (j : Nat) (u : Value) (h : (tokC (tk, tn, tl, tc, tt))[j]? = some u) : (W.alloc (.cells #[.int .i64 tk, .int .i64 tn, .int .i64 tl, .int .i64 tc, .string ⟨tt.toArray⟩] 60)).cell? ⟨b, j, none⟩ = some u := by
 rw [World.cell?_alloc_at _ _ _ _ hb]
 show (tokC (tk, tn, tl, tc, tt)).toArray[j]? = some u
 rw [List.getElem?_toArray]
 exact h

theorem info27 : ∃ i : TypeInfo, Tryz.prog.info? 60 = some i ∧ i.zero = some (tokV 0 0 0 0 []) ∧ i.size = 5 ∧ i.bytes = 48 := by
 have h : (Tryz.prog.info? 60).map (fun i => (i.zero, i.size, i.bytes)) = some (some (tokV 0 0 0 0 []), 5, 48) := by kernel_rfl
 cases hi : Tryz.prog.info? 60 with
 | none => rw [hi] at h; cases h
 | some i =>
  rw [hi] at h
  have h' := Option.some.inj h
  exact ⟨i, rfl, congrArg (·.1) h', congrArg (·.2.1) h', congrArg (·.2.2) h'⟩

set_option maxHeartbeats 1000000 in
set_option maxRecDepth 100000 in
theorem all_any (l : List UInt8) (hl : l.length ≤ 1048576) (w : World) (hR : Rng w) (ts : List Tok) (li co code : Int) (hA : allOf l = (ts, li, co, code)) :
  Calls Tryz.prog 24 #[.string ⟨l.toArray⟩] w fun e w' => ∃ v, e = .returned (.tuple #[v, .agg #[.int .i64 li, .int .i64 co], .int .i64 code]) ∧ Row w' w.heap.size v ts ∧ Below w.heap.size w w' := by
 have HA : Hid (allOf l = (ts, li, co, code)) := hA
 clear hA
 obtain ⟨i0, hi, hz0, hz1, hz2⟩ := info27
 have hll : ¬ (1048576 < (l.length : Int)) := by omega
 go_enter Tryz.func24, Tryz.ntmps24
 go_wp2
 go_loopw [5, 6] (fun v x wr => ∃ (a : Nat) (li co : Int) (acc : List Tok), a ≤ l.length ∧ acc.length ≤ a ∧ x = .int .i64 a ∧ 1 ≤ li ∧ li ≤ 1 + (a : Int) ∧ 1 ≤ co ∧ co ≤ 1 + (a : Int) ∧ Sp wr w.heap.size 0 0 ∧ Sp wr (w.heap.size + 1) li co ∧ Row wr (w.heap.size + 2) v acc ∧ Below w.heap.size w wr ∧ Hid (Far l a li co acc)) (fun _ x _ => l.length - (intOf x).toNat)
 case atStart =>
  refine ⟨0, 1, 1, [], Nat.zero_le _, Nat.le_refl _, rfl, by omega, by omega, by omega, by omega, ⟨?_, ?_, ?_, ?_⟩, ⟨?_, ?_, ?_, ?_⟩, World.ownsRow_nil _ _ _ _, ((Below.refl _ w).alloc (Nat.le_refl _) _).alloc (by simp) _, Far.zero l⟩
  all_goals simp
 case round =>
  obtain ⟨a, li1, co1, acc, ha, hacc, rfl, l1, l2, l3, l4, s0, s1, row, hB, HF⟩ := hrel
  have hn := nextL_ok l a ha li1 co1 l1 l2 l3 l4 _ rfl
  generalize hN : nextL l a li1 co1 = r at hn
  have HN : Hid (nextL l a li1 co1 = r) := hN
  clear hN
  obtain ⟨⟨tk, tn, tl, tc, tt⟩, b, li2, co2, cd⟩ := r
  simp only at hn
  have hRr := hR.next hB
  rcases hn with ⟨rfl, b', rfl, hb1, hb2, m1, m2, m3, m4⟩ | rfl | rfl
  ·have s1c := s1.c0
   have s1d := s1.c1
   go_wp2_with fail
   refine (next_any l hl a ha li1 co1 (by omega) (by omega) (by omega) (by omega) _ hRr).mono ?_
   rintro e w1 ⟨rfl, hb⟩
   rw [HN.out]
   have hB1 := hB.trans (hb.mono hB.size)
   have t0 := s0.next hb
   have t1 := s1.next hb
   have row1 := ownsRow_below row hb
   have hz := hb.size
   have hz' := hB.size
   have own := row.lt
   clear row s1c s1d hb
   go_wp2_with (at_builtin; refine wpList_append_own _ rfl _ _ 49 rfl (w.heap.size + 2) 60 i0 (tokV 0 0 0 0 []) 5 48 Tryz.underlying49 hi hz0 hz1 hz2 rfl (by omega) _ _ _ rfl (((row1.alloc _).alloc _).alloc _) ⟨w1.heap.size + 1 + 1, 0, none⟩ 1 1 (tokC (tk, tn, tl, tc, tt)) rfl ?qc1 ?qc2 ?qc3 ?qc4 ?qc5 ?qc6 ?_)
   case qc1 => rfl
   case qc2 =>
    intro j u hj
    rw [Addr.add_lit, Nat.zero_add]
    refine fresh_tok _ tk tn tl tc tt _ ?_ j u hj
    simp
   case qc3 => intro u hu; simp [tokC] at hu; rcases hu with rfl | rfl | rfl | rfl | rfl <;> rfl
   case qc4 => unfold maxLen; omega
   case qc5 => omega
   case qc6 => have := s1.lt; simp; omega
   intro v' w2 hown hgrow hnil
   have hne : ∀ k, k = w.heap.size ∨ k = w.heap.size + 1 ∨ w1.heap.size ≤ k → some k ≠ Value.ownBlock u5 := by
    intro k hk e
    have := own k e.symm
    omega
   have q0 : Sp w2 w.heap.size 0 0 := (((t0.alloc _).alloc _).alloc _).grown hgrow (hne _ (Or.inl rfl))
   have q1 : Sp w2 (w.heap.size + 1) li1 co1 := (((t1.alloc _).alloc _).alloc _).grown hgrow (hne _ (Or.inr (Or.inl rfl)))
   have q2 : Sp w2 (w1.heap.size + 1) li2 co2 := by
    have h := ((Sp.fresh (w1.alloc (.cells #[.int .i64 tk, .int .i64 tn, .int .i64 tl, .int .i64 tc, .string ⟨tt.toArray⟩] 60)) li2 co2).alloc (.cells #[.int .i64 tk, .int .i64 tn, .int .i64 tl, .int .i64 tc, .string ⟨tt.toArray⟩] 60)).grown hgrow (hne _ (by simp))
    simpa using h
   have hB2 : Below w.heap.size w w2 := (((hB1.alloc (by omega) _).alloc (by simp; omega) _).alloc (by simp; omega) _).grown hgrow (by simp; omega) (fun k hk => by have := own k hk; omega)
   have e0 := q1.c0
   have e1 := q1.c1
   have e2 := q1.f0
   have e3 := q1.f1
   have g0 := q2.c0
   have g1 := q2.c1
   clear t0 t1 row1 hgrow hnil hB1 own hne
   go_wp2_with fail
   go_region
   go_wp2
   go_roundw
   case rel =>
    refine ⟨b', li2, co2, acc ++ [(tk, tn, tl, tc, tt)], hb2, by simp; omega, rfl, m1, m2, m3, m4, ?_, ?_, ?_, ?_, HF.out.step HN.out hb1 hb2⟩
    ·exact ((q0.other _ _ (by omega) _).other _ _ (by omega) _).drew
    ·exact (q1.put li2 co2).drew
    ·exact (ownsRow_setCell_below (ownsRow_setCell_below (Row.snoc hown) (by simp) _) (by simp) _).drew
    ·exact ((hB2.setCell (by simp) _).setCell (by simp) _).drew
   case measure => simp [intOf]; omega
  ·have s1c := s1.c0
   have s1d := s1.c1
   have hfin := HF.out.none HN.out
   rw [HA.out] at hfin
   have HE : Hid ((ts, li, co, code) = (acc, li2, co2, 0)) := hfin
   clear hfin
   go_wp2_with fail
   refine (next_any l hl a ha li1 co1 (by omega) (by omega) (by omega) (by omega) _ hRr).mono ?_
   rintro e w1 ⟨rfl, hb⟩
   rw [HN.out]
   have hB1 := hB.trans (hb.mono hB.size)
   have t0 := s0.next hb
   have row1 := ownsRow_below row hb
   have hz := hb.size
   have hz' := hB.size
   clear row s1c s1d hb
   have k0 := t0.lt
   have e0 := t0.c0
   have e1 := t0.c1
   have e2 := t0.f0
   have e3 := t0.f1
   go_wp2_with fail
   go_region
   go_wp2_with fail
   refine bodyPost_ret (v := .tuple #[u5, .agg #[.int .i64 li2, .int .i64 co2], .int .i64 0]) (by simp [results, Tryz.results24, go_sem, e0, e1, k0]) rfl ⟨u5, ?_, ?_, ?_⟩
   ·have h := HE.out
    simp only [Prod.mk.injEq] at h
    obtain ⟨rfl, rfl, rfl, rfl⟩ := h
    rfl
   ·have h := congrArg Prod.fst HE.out
    simp only at h
    rw [h]
    exact Row.le (((ownsRow_setCell_below (ownsRow_setCell_below row1 (by simp) _) (by simp) _).alloc _).alloc _).drew (by omega)
   ·exact ((((hB1.setCell (by simp) _).setCell (by simp) _).alloc (by simp; omega) _).alloc (by simp; omega) _).drew
  ·have s1c := s1.c0
   have s1d := s1.c1
   have hfin := HF.out.text HN.out
   rw [HA.out] at hfin
   have HE : Hid ((ts, li, co, code) = (acc, li2, co2, 2)) := hfin
   clear hfin
   go_wp2_with fail
   refine (next_any l hl a ha li1 co1 (by omega) (by omega) (by omega) (by omega) _ hRr).mono ?_
   rintro e w1 ⟨rfl, hb⟩
   rw [HN.out]
   have hB1 := hB.trans (hb.mono hB.size)
   have t0 := s0.next hb
   have row1 := ownsRow_below row hb
   have hz := hb.size
   have hz' := hB.size
   clear row s1c s1d hb
   have k0 := t0.lt
   have e0 := t0.c0
   have e1 := t0.c1
   have e2 := t0.f0
   have e3 := t0.f1
   go_wp2_with fail
   go_region
   go_wp2_with fail
   refine bodyPost_ret (v := .tuple #[u5, .agg #[.int .i64 li2, .int .i64 co2], .int .i64 2]) (by simp [results, Tryz.results24, go_sem, e0, e1, k0]) rfl ⟨u5, ?_, ?_, ?_⟩
   ·have h := HE.out
    simp only [Prod.mk.injEq] at h
    obtain ⟨rfl, rfl, rfl, rfl⟩ := h
    rfl
   ·have h := congrArg Prod.fst HE.out
    simp only at h
    rw [h]
    exact Row.le (((ownsRow_setCell_below (ownsRow_setCell_below row1 (by simp) _) (by simp) _).alloc _).alloc _).drew (by omega)
   ·exact ((((hB1.setCell (by simp) _).setCell (by simp) _).alloc (by simp; omega) _).alloc (by simp; omega) _).drew
end Go.Proofs.YtgpkdjhllekihaaGreatDoor.Tok
