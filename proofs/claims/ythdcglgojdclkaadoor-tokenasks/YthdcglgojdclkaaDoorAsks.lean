/- TokenAsks' walk: it answers true at any text, pieces, place and spot. -/
import Derived.Test.YthdcglgojdclkaaDoorRefL
namespace Go.Proofs.YthdcglgojdclkaaDoor
open Go.RowKit Go.Shelf
set_option linter.unusedVariables false

theorem TokAt.next {w w' : World} {b o : Nat} {t : Tok} (h : TokAt w b o t) (hlt : b < w.heap.size) (hb : Below w.heap.size w w') : TokAt w' b o t :=
  ⟨by rw [hb.cell (p := ⟨b, _, none⟩) hlt]; exact h.c0, by rw [hb.cell (p := ⟨b, _, none⟩) hlt]; exact h.c1, by rw [hb.cell (p := ⟨b, _, none⟩) hlt]; exact h.c2, by rw [hb.cell (p := ⟨b, _, none⟩) hlt]; exact h.c3, by rw [hb.cell (p := ⟨b, _, none⟩) hlt]; exact h.c4⟩
/-- A box with a token. -/
def TB (w : World) (b : Nat) (t : Tok) : Prop := b < w.heap.size ∧ TokAt w b 0 t
theorem TB.next {w w' : World} {b : Nat} {t : Tok} (h : TB w b t) (hb : Below w.heap.size w w') : TB w' b t := ⟨Nat.lt_of_lt_of_le h.1 hb.size, h.2.next h.1 hb⟩
theorem TB.alloc {w : World} {b : Nat} {t : Tok} (h : TB w b t) (o : Obj) : TB (w.alloc o) b t := h.next ((Below.refl _ w).alloc (Nat.le_refl _) o)
theorem TB.fresh (w : World) (tk tn tl tc : Int) (tt : List UInt8) : TB (w.alloc (.cells #[.int .i64 tk, .int .i64 tn, .int .i64 tl, .int .i64 tc, .string ⟨tt.toArray⟩] 27)) w.heap.size (tk, tn, tl, tc, tt) :=
  ⟨by simp, fresh_tok w tk tn tl tc tt _ rfl 0 _ rfl, fresh_tok w tk tn tl tc tt _ rfl 1 _ rfl, fresh_tok w tk tn tl tc tt _ rfl 2 _ rfl, fresh_tok w tk tn tl tc tt _ rfl 3 _ rfl, fresh_tok w tk tn tl tc tt _ rfl 4 _ rfl⟩

/-- The program's and the document's next token are the same. -/
theorem both_next (S : List UInt8) (hS : S.length ≤ 1048576) (z li co : Int) (hli : 0 ≤ li) (hli2 : li ≤ 1099511627776) (hco : 0 ≤ co) (hco2 : co ≤ 1099511627776) :
    ∃ r : NextR, (∀ w : World, Rng w → Calls Tryd.prog 9 #[.string ⟨S.toArray⟩, .int .i64 z, .agg #[.int .i64 li, .int .i64 co]] w fun e w' => e = .returned (nextV r) ∧ Below w.heap.size w w') ∧
      (∀ w : World, Calls Tryd.prog 10 #[.string ⟨S.toArray⟩, .int .i64 z, .agg #[.int .i64 li, .int .i64 co]] w fun e w' => e = .returned (nextV r) ∧ Below w.heap.size w w') := by
  by_cases h : 0 ≤ z ∧ z ≤ S.length
  · obtain ⟨a, rfl⟩ := Int.eq_ofNat_of_zero_le h.1
    exact ⟨nextL S a li co, fun w hR => next_any S hS a (by omega) li co hli hli2 hco hco2 w hR, fun w => rnext_any S hS a (by omega) li co hli hli2 hco hco2 w⟩
  · refine ⟨((0, 0, 0, 0, []), z, li, co, 1), fun w hR => next_arg S hS z (by omega) li co w, fun w => rnext_arg S hS z (by omega) li co w⟩

/-- The program's and the document's line are the same. -/
theorem both_line (av : Option Addr) (cp : Nat) (ts : List Tok) (hts : ts.length ≤ 1048576) (z : Int) :
    ∃ (X : List Tok) (nx : Int), X.length ≤ 1048576 ∧
      (∀ w : World, Sl w av cp ts → Calls Tryd.prog 14 #[.slice av ts.length cp, .int .i64 z] w fun e w' => ∃ av' cp', e = .returned (.tuple #[.slice av' X.length cp', .int .i64 nx]) ∧ SlO w' av' cp' X ∧ Below w.heap.size w w') ∧
      (∀ w : World, Sl w av cp ts → Calls Tryd.prog 15 #[.slice av ts.length cp, .int .i64 z] w fun e w' => ∃ av' cp', e = .returned (.tuple #[.slice av' X.length cp', .int .i64 nx]) ∧ SlO w' av' cp' X ∧ Below w.heap.size w w') := by
  by_cases h : 0 ≤ z ∧ z < ts.length
  · obtain ⟨a, rfl⟩ := Int.eq_ofNat_of_zero_le h.1
    have ha : a < ts.length := by omega
    have hX : (lineTs ts a).length ≤ ts.length := by
      rw [lineTs_len ts a (by omega)]
      have := lineLen_le (ts.drop a)
      rw [List.length_drop] at this; omega
    refine ⟨lineTs ts a, lineNext ts a, by omega, fun w hs => ?_, fun w hs => ?_⟩
    · rcases hs with h | ⟨g, rfl, hc, hm, tk⟩
      · omega
      · refine (line_in ts g 0 cp hts hc (by unfold maxLen; omega) a ha w tk).mono ?_
        rintro e w' ⟨v, rfl, row, hb⟩
        obtain ⟨av', cp', rfl, sl⟩ := row.form
        exact ⟨av', cp', rfl, sl.o, hb⟩
    · rcases hs with h | ⟨g, rfl, hc, hm, tk⟩
      · omega
      · refine (rline_in ts g cp hts hc hm a ha w tk).mono ?_
        rintro e w' ⟨rfl, rfl⟩
        refine ⟨_, _, rfl, Or.inr ⟨g, a * 5, rfl, ?_, by omega, ?_⟩, Below.refl _ _⟩
        · rw [lineTs_len ts a (by omega)]
          have := lineLen_le (ts.drop a)
          rw [List.length_drop] at this; omega
        · have := (tk.drop a).take (lineLen (ts.drop a))
          rw [Nat.zero_add] at this
          exact this
  · refine ⟨[], z, by simp, fun w hs => ?_, fun w hs => ?_⟩
    · refine (line_out av ts.length cp (by unfold maxLen; omega) z (by omega) w).mono ?_
      rintro e w' ⟨rfl, rfl⟩
      exact ⟨none, 0, rfl, Or.inl rfl, Below.refl _ _⟩
    · refine (rline_out av ts.length cp (by unfold maxLen; omega) z (by omega) w).mono ?_
      rintro e w' ⟨rfl, rfl⟩
      exact ⟨none, 0, rfl, Or.inl rfl, Below.refl _ _⟩

set_option maxRecDepth 100000 in
set_option maxHeartbeats 1000000 in
theorem asks_long (b : ByteArray) (hb : b.size ≤ maxLen) (hl : 200 < b.size) (ao : Option Addr) (len cap : Nat) (z li co : Int) (w : World) (hR : Rng w) :
    Calls Tryd.prog 3 #[.string b, .slice ao len cap, .int .i64 z, .int .i64 li, .int .i64 co] w fun e w' => e = .returned (.bool true) ∧ Below w.heap.size w w' := by
  unfold maxLen at hb
  have hz : (200 : Int) < b.size := by omega
  go_enter Tryd.func3, Tryd.ntmps3
  go_wp2_with fail
  refine (told_any _ hR).mono ?_
  rintro e w1 ⟨rfl, b1⟩
  go_wp2
  go_ret
  exact ⟨rfl, b1⟩

theorem and_1023 (x : Int) : 0 ≤ bits .and .i64 x 1023 ∧ bits .and .i64 x 1023 ≤ 1023 := by
  unfold bits
  dsimp only
  have h : (BitVec.ofInt IntKind.i64.bits x &&& BitVec.ofInt IntKind.i64.bits 1023).toNat ≤ 1023 := by
    rw [BitVec.toNat_and]
    exact Nat.le_trans Nat.and_le_right (by decide)
  generalize (BitVec.ofInt IntKind.i64.bits x &&& BitVec.ofInt IntKind.i64.bits 1023).toNat = n at h
  unfold IntKind.wrap
  simp [IntKind.signed, IntKind.bits]
  omega

set_option maxRecDepth 100000 in
set_option maxHeartbeats 2000000 in
theorem asks_short (S0 : List UInt8) (hl : S0.length ≤ 200) (ao : Option Addr) (len cap : Nat) (hlen : len ≤ 9223372036854775807) (z0 li co : Int) (w : World) (hR : Rng w) (hI : Ints w ao (min len 25)) :
    Calls Tryd.prog 3 #[.string ⟨S0.toArray⟩, .slice ao len cap, .int .i64 z0, .int .i64 li, .int .i64 co] w fun e w' => e = .returned (.bool true) ∧ Below w.heap.size w w' := by
  have HI : Hid (Ints w ao (min len 25)) := hI
  clear hI
  have hz : ¬ ((200 : Int) < S0.length) := by omega
  go_enter Tryd.func3, Tryd.ntmps3
  go_wp2_with fail
  obtain ⟨P1, P2⟩ := and_1023 li
  obtain ⟨Q1, Q2⟩ := and_1023 co
  generalize bits BinOp.and IntKind.i64 li 1023 = P at *
  generalize bits BinOp.and IntKind.i64 co 1023 = Q at *
  go_loopw [0, 2, 12] (fun s x t wy => ∃ (S : List UInt8) (z : Int) (k : Nat), S.length ≤ 500 ∧ k ≤ 2 ∧ s = .string ⟨S.toArray⟩ ∧ x = .int .i64 z ∧ t = .int .i64 k ∧ Sp wy w.heap.size P Q ∧ Hid (Ints wy ao (min len 25)) ∧ Rng wy ∧ Past w wy) (fun _ _ t _ => 2 - (intOf t).toNat)
  case atStart => exact ⟨S0, z0, 0, by omega, by omega, rfl, rfl, rfl, Sp.fresh w P Q, HI.out.next ((Below.refl _ _).alloc (Nat.le_refl _) _), hR.alloc _, Past.alloc (Below.refl _ _) _⟩
  case round =>
    obtain ⟨S, z, k, hS, hk, rfl, rfl, rfl, sp, IW, RW, pW⟩ := hrel
    by_cases hk2 : k < 2
    · have hk2z : (k : Int) < 2 := by omega
      obtain ⟨r, hr1, hr2⟩ := both_next S (by omega) z P Q P1 (by omega) Q1 (by omega)
      have HR1 := hr1
      have HH1 : Hid (∀ w : World, Rng w → Calls Tryd.prog 9 #[.string ⟨S.toArray⟩, .int .i64 z, .agg #[.int .i64 P, .int .i64 Q]] w fun e w' => e = .returned (nextV r) ∧ Below w.heap.size w w') := hr1
      have HH2 : Hid (∀ w : World, Calls Tryd.prog 10 #[.string ⟨S.toArray⟩, .int .i64 z, .agg #[.int .i64 P, .int .i64 Q]] w fun e w' => e = .returned (nextV r) ∧ Below w.heap.size w w') := hr2
      clear hr1 hr2 HR1
      obtain ⟨⟨tk, tn, tl, tc, tt⟩, to, l1, c1, cd⟩ := r
      have htl := allP_len S.length S 1 1 (Nat.le_refl _)
      rw [← allOf_P] at htl
      generalize hA : allOf S = A at htl
      obtain ⟨ts, li2, co2, code⟩ := A
      simp only at htl
      have HA : Hid (allOf S = (ts, li2, co2, code)) := hA
      clear hA
      have s0 := sp.c0
      have s1 := sp.c1
      go_wp2_with fail
      refine (HH1.out _ RW).mono ?_
      rintro e w1 ⟨rfl, b1⟩
      have R1 := RW.next b1
      have p1 := pW.next b1
      have sp1 := sp.next b1
      have I1 : Hid (Ints w1 ao (min len 25)) := IW.out.next b1
      clear b1 sp s0 s1 RW pW IW
      have s0 := sp1.c0
      have s1 := sp1.c1
      have sl1 := sp1.lt
      go_wp2_with fail
      refine (HH2.out _).mono ?_
      rintro e w2 ⟨rfl, b2⟩
      have R2 := ((R1.alloc _).alloc _).next b2
      have p2 := ((p1.alloc _).alloc _).next b2
      have sp2 := ((sp1.alloc _).alloc _).next b2
      have I2 : Hid (Ints w2 ao (min len 25)) := ((I1.out.next ((Below.refl _ _).alloc (Nat.le_refl _) _)).next ((Below.refl _ _).alloc (Nat.le_refl _) _)).next b2
      have ta2 := ((TB.fresh w1 tk tn tl tc tt).alloc (.cells #[.int .i64 l1, .int .i64 c1] 25)).next b2
      have qa2 : Sp w2 (w1.heap.size + 1) l1 c1 := by
        have h := (Sp.fresh (w1.alloc (.cells #[.int .i64 tk, .int .i64 tn, .int .i64 tl, .int .i64 tc, .string ⟨tt.toArray⟩] 27)) l1 c1).next b2
        simpa using h
      clear b2 R1 p1 sp1 I1 s0 s1 sl1 HH1 HH2
      go_wp2_with fail
      refine (all_any S (by omega) _ (by exact (R2.alloc _).alloc _) ts li2 co2 code HA.out).mono ?_
      rintro e w3 ⟨va, rfl, rowa, b3⟩
      have R3 := ((R2.alloc _).alloc _).next b3
      have p3 := ((p2.alloc _).alloc _).next b3
      have sp3 := ((sp2.alloc _).alloc _).next b3
      have I3 : Hid (Ints w3 ao (min len 25)) := ((I2.out.next ((Below.refl _ _).alloc (Nat.le_refl _) _)).next ((Below.refl _ _).alloc (Nat.le_refl _) _)).next b3
      have ta3 := ((ta2.alloc _).alloc _).next b3
      have qa3 := ((qa2.alloc _).alloc _).next b3
      have tb3 := ((TB.fresh w2 tk tn tl tc tt).alloc (.cells #[.int .i64 l1, .int .i64 c1] 25)).next b3
      have qb3 : Sp w3 (w2.heap.size + 1) l1 c1 := by
        have h := (Sp.fresh (w2.alloc (.cells #[.int .i64 tk, .int .i64 tn, .int .i64 tl, .int .i64 tc, .string ⟨tt.toArray⟩] 27)) l1 c1).next b3
        simpa using h
      obtain ⟨av, cp, rfl, sla⟩ := rowa.form
      have SA3 : Hid (Sl w3 av cp ts) := sla
      clear b3 R2 p2 sp2 I2 ta2 qa2 rowa sla
      go_wp2_with fail
      refine (rall_any S (by omega) _ ts li2 co2 code HA.out).mono ?_
      rintro e w4 ⟨vb, rfl, rowb, b4⟩
      have R4 := (R3.alloc _).next b4
      have p4 := (p3.alloc _).next b4
      have sp4 := (sp3.alloc _).next b4
      have I4 : Hid (Ints w4 ao (min len 25)) := (I3.out.next ((Below.refl _ _).alloc (Nat.le_refl _) _)).next b4
      have ta4 := (ta3.alloc _).next b4
      have qa4 := (qa3.alloc _).next b4
      have tb4 := (tb3.alloc _).next b4
      have qb4 := (qb3.alloc _).next b4
      have xa4 := (Sp.fresh w3 li2 co2).next b4
      have SA4 : Hid (Sl w4 av cp ts) := (SA3.out.next ((Below.refl _ _).alloc (Nat.le_refl _) _)).next b4
      obtain ⟨av2, cp2, rfl, slb⟩ := rowb.form
      have SB4 : Hid (Sl w4 av2 cp2 ts) := slb
      clear b4 R3 p3 sp3 I3 ta3 qa3 tb3 qb3 rowb slb SA3
      obtain ⟨la, a0, a1, a2, a3, a4⟩ := ta4
      obtain ⟨lb, e0, e1, e2, e3, e4⟩ := tb4
      have lq1 := qa4.lt
      have lq2 := qb4.lt
      have lx := xa4.lt
      obtain ⟨f0, f1, _, _⟩ := qa4
      obtain ⟨g0, g1, _, _⟩ := qb4
      have lq1' : w1.heap.size < w4.heap.size := by omega
      have lq2' : w2.heap.size < w4.heap.size := by omega
      simp only [Nat.zero_add] at a0 a1 a2 a3 a4 e0 e1 e2 e3 e4
      go_wp2_with fail
      refine (same_any av av2 cp cp2 ts (by omega) _ (SA4.out.o.next ((Below.refl _ _).alloc (Nat.le_refl _) _)) (SB4.out.o.next ((Below.refl _ _).alloc (Nat.le_refl _) _))).mono ?_
      rintro e w5 ⟨rfl, b5⟩
      have R5 := (R4.alloc _).next b5
      have p5 := (p4.alloc _).next b5
      have sp5 := (sp4.alloc _).next b5
      have I5 : Hid (Ints w5 ao (min len 25)) := (I4.out.next ((Below.refl _ _).alloc (Nat.le_refl _) _)).next b5
      have xa5 := (xa4.alloc _).next b5
      have xb5 := (Sp.fresh w4 li2 co2).next b5
      have SB5 : Hid (Sl w5 av2 cp2 ts) := (SB4.out.next ((Below.refl _ _).alloc (Nat.le_refl _) _)).next b5
      clear b5 R4 p4 sp4 I4 xa4 SA4 SB4 la lb a0 a1 a2 a3 a4 e0 e1 e2 e3 e4 lq1 lq2 lx f0 f1 g0 g1 lq1' lq2'
      obtain ⟨x0, x1, _, _⟩ := xa5
      obtain ⟨y0, y1, _, _⟩ := xb5
      obtain ⟨X, nx, hXl, hl1, hl2⟩ := both_line av2 cp2 ts (by omega) z
      have HL1 : Hid (∀ w : World, Sl w av2 cp2 ts → Calls Tryd.prog 14 #[.slice av2 ts.length cp2, .int .i64 z] w fun e w' => ∃ av' cp', e = .returned (.tuple #[.slice av' X.length cp', .int .i64 nx]) ∧ SlO w' av' cp' X ∧ Below w.heap.size w w') := hl1
      have HL2 : Hid (∀ w : World, Sl w av2 cp2 ts → Calls Tryd.prog 15 #[.slice av2 ts.length cp2, .int .i64 z] w fun e w' => ∃ av' cp', e = .returned (.tuple #[.slice av' X.length cp', .int .i64 nx]) ∧ SlO w' av' cp' X ∧ Below w.heap.size w w') := hl2
      clear hl1 hl2
      go_wp2_with fail
      refine (HL1.out _ SB5.out).mono ?_
      rintro e w6 ⟨av6, cp6, rfl, so6, b6⟩
      have R6 := R5.next b6
      have p6 := p5.next b6
      have sp6 := sp5.next b6
      have I6 : Hid (Ints w6 ao (min len 25)) := I5.out.next b6
      have SB6 : Hid (Sl w6 av2 cp2 ts) := SB5.out.next b6
      have SO6 : Hid (SlO w6 av6 cp6 X) := so6
      clear b6 R5 p5 sp5 I5 SB5 so6 x0 x1 y0 y1
      go_wp2_with fail
      refine (HL2.out _ SB6.out).mono ?_
      rintro e w7 ⟨av7, cp7, rfl, so7, b7⟩
      have R7 := R6.next b7
      have p7 := p6.next b7
      have sp7 := sp6.next b7
      have I7 : Hid (Ints w7 ao (min len 25)) := I6.out.next b7
      have SO7a : Hid (SlO w7 av6 cp6 X) := SO6.out.next b7
      have SO7b : Hid (SlO w7 av7 cp7 X) := so7
      clear b7 R6 p6 sp6 I6 SB6 SO6 so7 HL1 HL2
      go_wp2_with fail
      refine (same_any av6 av7 cp6 cp7 X hXl _ SO7a.out SO7b.out).mono ?_
      rintro e w8 ⟨rfl, b8⟩
      have R8 := R7.next b8
      have p8 := p7.next b8
      have sp8 := sp7.next b8
      have I8 : Hid (Ints w8 ao (min len 25)) := I7.out.next b8
      clear b8 R7 p7 sp7 I7 SO7a SO7b
      go_wp2_with fail
      refine (text_any ao len cap hlen _ I8.out).mono ?_
      rintro e w9 ⟨T, rfl, hT, b9⟩
      have R9 := R8.next b9
      have p9 := p8.next b9
      have sp9 := sp8.next b9
      have I9 : Hid (Ints w9 ao (min len 25)) := I8.out.next b9
      clear b9 R8 p8 sp8 I8
      go_wp2_with fail
      exact ⟨⟨T, _, k + 1, hT, by omega, rfl, rfl, by go_num, sp9, I9, R9, p9⟩, by simp [intOf]; omega⟩
    · have hk2z : ¬ (k : Int) < 2 := by omega
      go_wp2_with fail
      refine (told_any _ RW).mono ?_
      rintro e w1 ⟨rfl, b1⟩
      go_wp2
      go_ret
      exact ⟨rfl, pW.next b1⟩

theorem asks_law (b : ByteArray) (hb : b.size ≤ maxLen) (ao : Option Addr) (len cap : Nat) (zs : List Int) {w0 : World} (hz : IsRow .i64 w0 ao len cap zs) (z : Int) (_ : -9223372036854775808 ≤ z ∧ z ≤ 9223372036854775807) (li : Int) (_ : -9223372036854775808 ≤ li ∧ li ≤ 9223372036854775807) (co : Int) (_ : -9223372036854775808 ≤ co ∧ co ≤ 9223372036854775807) (w : World) (hR : Rng w) (hw : w0 = w) :
    Calls Tryd.prog 3 #[.string b, .slice ao len cap, .int .i64 z, .int .i64 li, .int .i64 co] w fun e w' => e = .returned (.bool true) ∧ Below w.heap.size w w' := by
  subst hw
  by_cases h : 200 < b.size
  · exact asks_long b hb h ao len cap z li co w0 hR
  · have e : b = ⟨b.data.toList.toArray⟩ := by cases b; simp
    have hl : b.data.toList.length ≤ 200 := by
      have : b.size = b.data.size := rfl
      rw [Array.length_toList]; omega
    rw [e]
    exact asks_short b.data.toList hl ao len cap hz.len z li co w0 hR (hz.ints 25)
end Go.Proofs.YthdcglgojdclkaaDoor
