/- parterreref2.All, Line and parterrelaw2.Same by contracts. -/
import Derived.Test.YtgpkdjhllekihaaGreatDoorTRefJ
import Derived.Test.YtgpkdjhllekihaaGreatDoorTLinesS
namespace Go.Proofs.YtgpkdjhllekihaaGreatDoor.Tok
open Go.RowKit Go.Shelf
attribute [local go_sem] bget bdrop btake
set_option linter.unusedVariables false
set_option maxRecDepth 100000

set_option maxRecDepth 100000 in
set_option maxHeartbeats 1000000 in
theorem rnext_arg (l : List UInt8) (hl : l.length ≤ 1048576) (a : Int) (ha : a < 0 ∨ (l.length : Int) < a) (li co : Int) (w : World) :
  Calls Tryz.prog 30 #[.string ⟨l.toArray⟩, .int .i64 a, .agg #[.int .i64 li, .int .i64 co]] w fun e w' => e = .returned (.tuple #[tokV 0 0 0 0 [], .int .i64 a, .agg #[.int .i64 li, .int .i64 co], .int .i64 1]) ∧ Below w.heap.size w w' := by
 by_cases h : a < 0
 ·clear ha
  go_enter Tryz.func30, Tryz.ntmps30
  go_wp2_with fail
  go_region
  go_wp2_with fail
  refine bodyPost_ret (v := .tuple #[tokV 0 0 0 0 [], .int .i64 a, .agg #[.int .i64 li, .int .i64 co], .int .i64 1]) (by simp [results, Tryz.results30, go_sem]) rfl ⟨rfl, ?_⟩
  exact ((((Below.refl _ w).alloc (Nat.le_refl _) _).alloc (by simp) _).alloc (by simp; omega) _).drew
 ·have h2 : (l.length : Int) < a := by omega
  clear ha
  go_enter Tryz.func30, Tryz.ntmps30
  go_wp2_with fail
  go_region
  go_wp2_with fail
  refine bodyPost_ret (v := .tuple #[tokV 0 0 0 0 [], .int .i64 a, .agg #[.int .i64 li, .int .i64 co], .int .i64 1]) (by simp [results, Tryz.results30, go_sem]) rfl ⟨rfl, ?_⟩
  exact ((((Below.refl _ w).alloc (Nat.le_refl _) _).alloc (by simp) _).alloc (by simp; omega) _).drew

set_option maxHeartbeats 1000000 in
set_option maxRecDepth 100000 in
theorem rall_any (l : List UInt8) (hl : l.length ≤ 1048576) (w : World) (ts : List Tok) (li co code : Int) (hA : allOf l = (ts, li, co, code)) :
  Calls Tryz.prog 16 #[.string ⟨l.toArray⟩] w fun e w' => ∃ v, e = .returned (.tuple #[v, .agg #[.int .i64 li, .int .i64 co], .int .i64 code]) ∧ Row w' w.heap.size v ts ∧ Below w.heap.size w w' := by
 have HA : Hid (allOf l = (ts, li, co, code)) := hA
 clear hA
 obtain ⟨i0, hi, hz0, hz1, hz2⟩ := info27
 have hll : ¬ (1048576 < (l.length : Int)) := by omega
 go_enter Tryz.func16, Tryz.ntmps16
 go_wp2
 go_loopw [5, 7] (fun v x wr => ∃ (a : Nat) (li co : Int) (acc : List Tok), a ≤ l.length ∧ acc.length ≤ a ∧ x = .int .i64 a ∧ 1 ≤ li ∧ li ≤ 1 + (a : Int) ∧ 1 ≤ co ∧ co ≤ 1 + (a : Int) ∧ Sp wr w.heap.size 0 0 ∧ Sp wr (w.heap.size + 1) li co ∧ Row wr (w.heap.size + 2) v acc ∧ Below w.heap.size w wr ∧ Hid (Far l a li co acc)) (fun _ x _ => l.length - (intOf x).toNat)
 case atStart =>
  refine ⟨0, 1, 1, [], Nat.zero_le _, Nat.le_refl _, rfl, by omega, by omega, by omega, by omega, ⟨?_, ?_, ?_, ?_⟩, ⟨?_, ?_, ?_, ?_⟩, World.ownsRow_nil _ _ _ _, ((Below.refl _ w).alloc (Nat.le_refl _) _).alloc (by simp) _, Far.zero l⟩
  all_goals simp
 case round =>
  obtain ⟨a, li1, co1, acc, ha, hacc, rfl, l1, l2, l3, l4, s0, s1, row, hB, HF⟩ := hrel
  have hn := nextL_ok l a ha li1 co1 l1 l2 l3 l4 _ rfl
  generalize hN : nextL l a li1 co1 = r at hn
  have HN : Hid (nextL l a li1 co1 = r) := hN
  clear hN
  obtain ⟨⟨tk, tn, tl, tc, tt⟩, b, li2, co2, cd⟩ := r
  simp only at hn
  rcases hn with ⟨rfl, b', rfl, hb1, hb2, m1, m2, m3, m4⟩ | rfl | rfl
  ·have s1c := s1.c0
   have s1d := s1.c1
   go_wp2_with fail
   refine (rnext_any l hl a ha li1 co1 (by omega) (by omega) (by omega) (by omega) _).mono ?_
   rintro e w1 ⟨rfl, hb⟩
   rw [HN.out]
   have hB1 := hB.trans (hb.mono hB.size)
   have t0 := s0.next hb
   have t1 := s1.next hb
   have row1 := ownsRow_below row hb
   have hz := hb.size
   have hz' := hB.size
   have own := row.lt
   clear row s1c s1d hb
   go_wp2_with (at_builtin; refine wpList_append_own _ rfl _ _ 49 rfl (w.heap.size + 2) 60 i0 (tokV 0 0 0 0 []) 5 48 Tryz.underlying49 hi hz0 hz1 hz2 rfl (by omega) _ _ _ rfl (((row1.alloc _).alloc _).alloc _) ⟨w1.heap.size + 1 + 1, 0, none⟩ 1 1 (tokC (tk, tn, tl, tc, tt)) rfl ?qc1 ?qc2 ?qc3 ?qc4 ?qc5 ?qc6 ?_)
   case qc1 => rfl
   case qc2 =>
    intro j u hj
    rw [Addr.add_lit, Nat.zero_add]
    refine fresh_tok _ tk tn tl tc tt _ ?_ j u hj
    simp
   case qc3 => intro u hu; simp [tokC] at hu; rcases hu with rfl | rfl | rfl | rfl | rfl <;> rfl
   case qc4 => unfold maxLen; omega
   case qc5 => omega
   case qc6 => have := s1.lt; simp; omega
   intro v' w2 hown hgrow hnil
   have hne : ∀ k, k = w.heap.size ∨ k = w.heap.size + 1 ∨ w1.heap.size ≤ k → some k ≠ Value.ownBlock u5 := by
    intro k hk e
    have := own k e.symm
    omega
   have q0 : Sp w2 w.heap.size 0 0 := (((t0.alloc _).alloc _).alloc _).grown hgrow (hne _ (Or.inl rfl))
   have q1 : Sp w2 (w.heap.size + 1) li1 co1 := (((t1.alloc _).alloc _).alloc _).grown hgrow (hne _ (Or.inr (Or.inl rfl)))
   have q2 : Sp w2 (w1.heap.size + 1) li2 co2 := by
    have h := ((Sp.fresh (w1.alloc (.cells #[.int .i64 tk, .int .i64 tn, .int .i64 tl, .int .i64 tc, .string ⟨tt.toArray⟩] 60)) li2 co2).alloc (.cells #[.int .i64 tk, .int .i64 tn, .int .i64 tl, .int .i64 tc, .string ⟨tt.toArray⟩] 60)).grown hgrow (hne _ (by simp))
    simpa using h
   have hB2 : Below w.heap.size w w2 := (((hB1.alloc (by omega) _).alloc (by simp; omega) _).alloc (by simp; omega) _).grown hgrow (by simp; omega) (fun k hk => by have := own k hk; omega)
   have e0 := q1.c0
   have e1 := q1.c1
   have e2 := q1.f0
   have e3 := q1.f1
   have g0 := q2.c0
   have g1 := q2.c1
   clear t0 t1 row1 hgrow hnil hB1 own hne
   go_wp2_with fail
   go_region
   go_wp2
   go_roundw
   case rel =>
    refine ⟨b', li2, co2, acc ++ [(tk, tn, tl, tc, tt)], hb2, by simp; omega, rfl, m1, m2, m3, m4, ?_, ?_, ?_, ?_, HF.out.step HN.out hb1 hb2⟩
    ·exact ((q0.other _ _ (by omega) _).other _ _ (by omega) _).drew
    ·exact (q1.put li2 co2).drew
    ·exact (ownsRow_setCell_below (ownsRow_setCell_below (Row.snoc hown) (by simp) _) (by simp) _).drew
    ·exact ((hB2.setCell (by simp) _).setCell (by simp) _).drew
   case measure => simp [intOf]; omega
  ·have s1c := s1.c0
   have s1d := s1.c1
   have hfin := HF.out.none HN.out
   rw [HA.out] at hfin
   have HE : Hid ((ts, li, co, code) = (acc, li2, co2, 0)) := hfin
   clear hfin
   go_wp2_with fail
   refine (rnext_any l hl a ha li1 co1 (by omega) (by omega) (by omega) (by omega) _).mono ?_
   rintro e w1 ⟨rfl, hb⟩
   rw [HN.out]
   have hB1 := hB.trans (hb.mono hB.size)
   have t0 := s0.next hb
   have row1 := ownsRow_below row hb
   have hz := hb.size
   have hz' := hB.size
   clear row s1c s1d hb
   have k0 := t0.lt
   have e0 := t0.c0
   have e1 := t0.c1
   have e2 := t0.f0
   have e3 := t0.f1
   go_wp2_with fail
   go_region
   go_wp2_with fail
   refine bodyPost_ret (v := .tuple #[u5, .agg #[.int .i64 li2, .int .i64 co2], .int .i64 0]) (by simp [results, Tryz.results16, go_sem, e0, e1, k0]) rfl ⟨u5, ?_, ?_, ?_⟩
   ·have h := HE.out
    simp only [Prod.mk.injEq] at h
    obtain ⟨rfl, rfl, rfl, rfl⟩ := h
    rfl
   ·have h := congrArg Prod.fst HE.out
    simp only at h
    rw [h]
    exact Row.le (((ownsRow_setCell_below (ownsRow_setCell_below row1 (by simp) _) (by simp) _).alloc _).alloc _).drew (by omega)
   ·exact ((((hB1.setCell (by simp) _).setCell (by simp) _).alloc (by simp; omega) _).alloc (by simp; omega) _).drew
  ·have s1c := s1.c0
   have s1d := s1.c1
   have hfin := HF.out.text HN.out
   rw [HA.out] at hfin
   have HE : Hid ((ts, li, co, code) = (acc, li2, co2, 2)) := hfin
   clear hfin
   go_wp2_with fail
   refine (rnext_any l hl a ha li1 co1 (by omega) (by omega) (by omega) (by omega) _).mono ?_
   rintro e w1 ⟨rfl, hb⟩
   rw [HN.out]
   have hB1 := hB.trans (hb.mono hB.size)
   have t0 := s0.next hb
   have row1 := ownsRow_below row hb
   have hz := hb.size
   have hz' := hB.size
   clear row s1c s1d hb
   have k0 := t0.lt
   have e0 := t0.c0
   have e1 := t0.c1
   have e2 := t0.f0
   have e3 := t0.f1
   go_wp2_with fail
   go_region
   go_wp2_with fail
   refine bodyPost_ret (v := .tuple #[u5, .agg #[.int .i64 li2, .int .i64 co2], .int .i64 2]) (by simp [results, Tryz.results16, go_sem, e0, e1, k0]) rfl ⟨u5, ?_, ?_, ?_⟩
   ·have h := HE.out
    simp only [Prod.mk.injEq] at h
    obtain ⟨rfl, rfl, rfl, rfl⟩ := h
    rfl
   ·have h := congrArg Prod.fst HE.out
    simp only at h
    rw [h]
    exact Row.le (((ownsRow_setCell_below (ownsRow_setCell_below row1 (by simp) _) (by simp) _).alloc _).alloc _).drew (by omega)
   ·exact ((((hB1.setCell (by simp) _).setCell (by simp) _).alloc (by simp; omega) _).alloc (by simp; omega) _).drew

/-- A slice whose tokens lie from a place of one block on, or that has none. -/
def SlO (w : World) (av : Option Addr) (cp : Nat) (ts : List Tok) : Prop := ts.length = 0 ∨ ∃ g off, av = some ⟨g, off, none⟩ ∧ ts.length ≤ cp ∧ cp ≤ 9223372036854775807 ∧ Toks w g off ts
theorem SlO.next {w w' : World} {av : Option Addr} {cp : Nat} {ts : List Tok} (h : SlO w av cp ts) (hb : Below w.heap.size w w') : SlO w' av cp ts := by
 rcases h with h | ⟨g, off, h1, h2, h3, h4⟩
 ·exact Or.inl h
 ·exact Or.inr ⟨g, off, h1, h2, h3, h4.next hb⟩
theorem Sl.o {w : World} {av : Option Addr} {cp : Nat} {ts : List Tok} (h : Sl w av cp ts) : SlO w av cp ts := by
 rcases h with h | ⟨g, h1, h2, h3, h4⟩
 ·exact Or.inl h
 ·exact Or.inr ⟨g, 0, h1, h2, h3, h4⟩

theorem ret_sl {s : Value} {x y : Int} (h : x = y) : Ending.returned (.tuple #[s, .int .i64 x]) = .returned (.tuple #[s, .int .i64 y]) := by rw [h]
set_option maxHeartbeats 400000 in
theorem rline_out (ao : Option Addr) (n cap : Nat) (hn : n ≤ maxLen) (at' : Int) (h : at' < 0 ∨ (n : Int) ≤ at') (w : World) :
  Calls Tryz.prog 17 #[.slice ao n cap, .int .i64 at'] w fun e w' => e = .returned (.tuple #[.slice none 0 0, .int .i64 at']) ∧ w' = w := by
 unfold maxLen at hn
 by_cases h0 : at' < 0
 ·clear h
  go_enter Tryz.func17, Tryz.ntmps17
  go_wp2
  go_ret2
  exact ⟨rfl, rfl⟩
 ·have h1 : (n : Int) ≤ at' := by omega
  clear h
  go_enter Tryz.func17, Tryz.ntmps17
  go_wp2
  go_ret2
  exact ⟨rfl, rfl⟩

set_option maxHeartbeats 1000000 in
theorem rline_in (ts : List Tok) (g cap : Nat) (hlen : ts.length ≤ 1048576) (hcap : ts.length ≤ cap) (hcm : cap ≤ 9223372036854775807) (a : Nat) (ha : a < ts.length) (w : World) (hT : Toks w g 0 ts) :
  Calls Tryz.prog 17 #[.slice (some ⟨g, 0, none⟩) ts.length cap, .int .i64 a] w fun e w' => e = .returned (.tuple #[.slice (some ⟨g, a * 5, none⟩) (lineTs ts a).length (cap - a), .int .i64 (lineNext ts a)]) ∧ w' = w := by
 obtain ⟨q, hq, q1, q2, q3, q4, q5, q6⟩ := lineNext_nat ts a ha
 rw [hq, lineTs_len ts a (by omega)]
 have hno := lineLen_no (ts.drop a)
 have hyes := lineLen_yes (ts.drop a)
 clear hq
 generalize lineLen (ts.drop a) = M at *
 have HN : Hid ((∀ i (h : i < M) (hi : i < (ts.drop a).length), endB (ts.drop a)[i] = false) ∧ (∀ h : M < (ts.drop a).length, endB (ts.drop a)[M] = true) ∧ (a + M < ts.length → q = a + M + 1) ∧ (¬ a + M < ts.length → q = a + M)) := ⟨hno, hyes, q5, q6⟩
 have HT : Hid (Toks w g 0 ts) := hT
 clear hno hyes q5 q6 hT
 have h0 : ¬ ((a : Int) < 0) := by omega
 have h1 : ¬ ((ts.length : Int) ≤ a) := by omega
 go_enter Tryz.func17, Tryz.ntmps17
 go_wp2_with fail
 go_loop [6] (fun x => ∃ m : Nat, a ≤ m ∧ m ≤ a + M ∧ x = .int .i64 m) (fun x => a + M - (intOf x).toNat)
 case atStart => exact ⟨a, Nat.le_refl _, by omega, rfl⟩
 case round =>
  obtain ⟨m, hm1, hm2, rfl⟩ := hrel
  by_cases hmM : m < a + M
  ·have hml : m < ts.length := by omega
   have hmlz : (m : Int) < ts.length := by omega
   have ta := (HT.out.at m hml).c0
   have he := HN.out.1 (m - a) (by omega) (by rw [List.length_drop]; omega)
   rw [List.getElem_drop] at he
   simp only [show a + (m - a) = m by omega] at he
   generalize ts[m] = y at ta he
   obtain ⟨yk, yn, yl, yc, yt⟩ := y
   unfold endB at he
   simp only [Nat.zero_add] at ta he
   have he2 : (yk != 3) = true := by simp at he ⊢; exact he
   clear he
   go_wp2_with fail
   exact ⟨⟨m + 1, by omega, by omega, by go_num⟩, by simp [intOf]; omega⟩
  ·have hm : m = a + M := by omega
   subst hm
   by_cases hml : a + M < ts.length
   ·have hmlz : ((a + M : Nat) : Int) < ts.length := by omega
    have ta := (HT.out.at (a + M) hml).c0
    have he := HN.out.2.1 (by rw [List.length_drop]; omega)
    rw [List.getElem_drop] at he
    have hqe := HN.out.2.2.1 hml
    have HQ : Hid (q = a + M + 1) := hqe
    clear hqe
    generalize ts[a + M] = y at ta he
    obtain ⟨yk, yn, yl, yc, yt⟩ := y
    unfold endB at he
    simp only [Nat.zero_add] at ta he
    have he2 : (yk != 3) = false := by simp at he ⊢; exact he
    clear he
    go_wp2
    go_ret2
    exact ⟨ret_sl (by rw [HQ.out]; omega), rfl⟩
   ·have hmlz : ¬ ((a + M : Nat) : Int) < ts.length := by omega
    have hqe := HN.out.2.2.2 hml
    have HQ : Hid (q = a + M) := hqe
    clear hqe
    go_wp2
    go_ret2
    exact ⟨ret_sl (by rw [HQ.out]; omega), rfl⟩
end Go.Proofs.YtgpkdjhllekihaaGreatDoor.Tok
