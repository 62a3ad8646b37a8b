/- TokenSpots' walk: it answers true whatever the pieces. -/
import Derived.Test.YthdcglgojdclkaaDoorSpotsP
import Derived.Test.YthdcglgojdclkaaDoorLines
namespace Go.Proofs.YthdcglgojdclkaaDoor
open Go.RowKit Go.Shelf
theorem bmid (T : List UInt8) (p n : Nat) : (⟨T.toArray⟩ : ByteArray).extract p (p + n) = ⟨((T.drop p).take n).toArray⟩ := by
  apply ByteArray.ext; simp [ByteArray.data_extract]
theorem slice_text (T : List UInt8) (p n : Nat) (y : List UInt8) (hn : p + n ≤ T.length) (hm : (T.drop p).take n = y) (wx : World) :
    (Instr.slice 9 (.string ⟨T.toArray⟩) (some (.int .i64 (p : Int))) (some (.int .i64 ((p : Int) + (n : Int)))) none).run Tryd.prog wx = .ok (.string ⟨y.toArray⟩) wx := by
  have hsz : (⟨T.toArray⟩ : ByteArray).size = T.length := by show T.toArray.size = _; simp
  have := run_slice_string (P := Tryd.prog) wx 9 ⟨T.toArray⟩ .i64 .i64 (p : Int) ((p : Int) + (n : Int)) Tryd.underlying9 (by omega) (by omega) (by rw [hsz]; omega)
  rw [this]
  have e1 : ((p : Int) + (n : Int)).toNat = p + n := by omega
  have e2 : ((p : Int)).toNat = p := by omega
  rw [e1, e2, bmid, hm]
attribute [local go_sem] bget
set_option linter.unusedVariables false

/-- Numbers, as cells. -/
def numC (xs : List Nat) : List Value := xs.map fun x : Nat => Value.int .i64 (x : Int)
theorem info3 : ∃ i : TypeInfo, Tryd.prog.info? 3 = some i ∧ i.zero = some (.int .i64 0) ∧ i.size = 1 ∧ i.bytes = 8 := by
  have h : (Tryd.prog.info? 3).map (fun i => (i.zero, i.size, i.bytes)) = some (some (.int .i64 0), 1, 8) := by kernel_rfl
  cases hi : Tryd.prog.info? 3 with
  | none => rw [hi] at h; cases h
  | some i =>
    rw [hi] at h
    have h' := Option.some.inj h
    exact ⟨i, rfl, congrArg (·.1) h', congrArg (·.2.1) h', congrArg (·.2.2) h'⟩
/-- A slice of numbers of the call's own. -/
def NRow (w : World) (base : Nat) (v : Value) (xs : List Nat) : Prop := w.ownsRow base 3 1 v xs.length (numC xs)
theorem NRow.snoc {w : World} {base : Nat} {v : Value} {xs : List Nat} {x : Nat} (h : w.ownsRow base 3 1 v (xs.length + 1) (numC xs ++ [.int .i64 (x : Int)])) : NRow w base v (xs ++ [x]) := by
  unfold NRow numC
  rw [List.length_append, List.map_append]
  simpa [numC] using h
def Nats (w : World) (g : Nat) (xs : List Nat) : Prop := g < w.heap.size ∧ ∀ (j x : Nat), xs[j]? = some x → w.cell? ⟨g, j, none⟩ = some (.int .i64 (x : Int))
theorem Nats.next {w w' : World} {g : Nat} {xs : List Nat} (h : Nats w g xs) (hb : Below w.heap.size w w') : Nats w' g xs :=
  ⟨Nat.lt_of_lt_of_le h.1 hb.size, fun j x hj => by rw [hb.cell (p := ⟨g, j, none⟩) h.1]; exact h.2 j x hj⟩
theorem NRow.form {w : World} {base : Nat} {v : Value} {xs : List Nat} (h : NRow w base v xs) (hx : xs ≠ []) : ∃ g cp, v = .slice (some ⟨g, 0, none⟩) xs.length cp ∧ xs.length ≤ cp ∧ cp ≤ 9223372036854775807 ∧ Nats w g xs := by
  have h2 := h
  rcases h.2 with ⟨_, hn⟩ | ⟨g, cp, cur, hv, hb, hc, hn, hm, _, _⟩
  · exact absurd (List.length_eq_zero_iff.1 hn) hx
  · subst hv
    refine ⟨g, cp, rfl, hn, by unfold maxLen at hm; omega, (Array.getElem?_eq_some_iff.1 hc).1, fun j x hj => ?_⟩
    have := World.ownsRow.cells h2 rfl j (.int .i64 (x : Int)) (by unfold numC; rw [List.getElem?_map, hj]; rfl)
    rw [Addr.add_lit, Nat.zero_add] at this
    exact this
theorem fresh_num (W : World) (x : Int) (b : Nat) (hb : b = W.heap.size) (j : Nat) (u : Value) (h : [Value.int .i64 x][j]? = some u) : (W.alloc (.cells #[.int .i64 x] 3)).cell? ⟨b, j, none⟩ = some u := by
  rw [World.cell?_alloc_at _ _ _ _ hb]
  show [Value.int .i64 x].toArray[j]? = some u
  rw [List.getElem?_toArray]
  exact h

set_option maxRecDepth 100000 in
set_option maxHeartbeats 2000000 in
theorem spots_any (ao : Option Addr) (len cap : Nat) (hlen : len ≤ 9223372036854775807) (w : World) (hR : Rng w) (hI : Ints w ao (min len 25)) :
    Calls Tryd.prog 6 #[.slice ao len cap] w fun e w' => e = .returned (.bool true) ∧ Below w.heap.size w w' := by
  have HI : Hid (Ints w ao (min len 25)) := hI
  clear hI
  obtain ⟨i0, hi, hz0, hz1, hz2⟩ := info3
  go_enter Tryd.func6, Tryd.ntmps6
  go_wp2_with fail
  refine (text_any ao len cap hlen _ HI.out).mono ?_
  rintro e w1 ⟨T, rfl, hT, b1⟩
  have R1 := hR.next b1
  have p1 : Past w w1 := b1
  clear b1 hR HI
  have hcode := allP_code T.length T 1 1 (Nat.le_refl _)
  have hst := all_stands T
  have htl := allP_len T.length T 1 1 (Nat.le_refl _)
  generalize hA : allP T 1 1 = A at hcode hst htl
  obtain ⟨ts, li, co, code⟩ := A
  simp only at hcode hst htl
  have HS : Hid ((∀ t ∈ ts, Stands T t) ∧ Here T li co) := hst
  have HC : Hid (code = 0 ∨ code = 2) := hcode
  clear hst hcode
  go_wp2_with fail
  refine (all_any T (by omega) _ R1 ts li co code (by rw [allOf_P]; exact hA)).mono ?_
  rintro e w2 ⟨v, rfl, row, b2⟩
  have R2 := R1.next b2
  have p2 := p1.next b2
  clear b2 R1 p1 hA
  obtain ⟨av, cp, rfl, sl⟩ := row.form
  have SL : Hid (Sl w2 av cp ts) := sl
  clear row sl
  go_wp2_with (at_builtin; refine wpList_append_own _ rfl _ _ 22 rfl (w2.heap.size + 1) 3 i0 (.int .i64 0) 1 8 Tryd.underlying22 hi hz0 hz1 hz2 rfl (by omega) _ _ _ rfl (World.ownsRow_nil _ _ _ _) ⟨w2.heap.size + 1, 0, none⟩ 1 1 [.int .i64 0] rfl ?qc1 ?qc2 ?qc3 ?qc4 ?qc5 ?qc6 ?_)
  case qc1 => rfl
  case qc2 =>
    intro j u hj
    rw [Addr.add_lit, Nat.zero_add]
    refine fresh_num _ 0 _ ?_ j u hj
    simp
  case qc3 => intro u hu; simp at hu; subst hu; rfl
  case qc4 => unfold maxLen; omega
  case qc5 => omega
  case qc6 => simp
  intro v' w3 hown hgrow hnil
  have hB3 : Below (w2.heap.size + 1) (w2.alloc (.cells #[.int .i64 li, .int .i64 co] 25)) w3 := (((Below.refl _ _).alloc (by simp) _)).grown hgrow (by simp) (fun k hk => by simp [Value.ownBlock] at hk)
  have hrow : NRow w3 (w2.heap.size + 1) v' [0] := by unfold NRow; simpa [numC] using hown
  clear hown hgrow hnil
  go_wp2_with fail
  go_loopw [7, 8] (fun s x wy => ∃ i : Nat, i ≤ T.length ∧ x = .int .i64 i ∧ NRow wy (w2.heap.size + 1) s (0 :: nlPos (T.take i) 0) ∧ Below (w2.heap.size + 1) (w2.alloc (.cells #[.int .i64 li, .int .i64 co] 25)) wy) (fun _ x _ => T.length - (intOf x).toNat)
  case atStart => exact ⟨0, Nat.zero_le _, rfl, hrow, hB3⟩
  case round =>
    obtain ⟨i, hil, rfl, nrow, hB⟩ := hrel
    clear hrow hB3
    by_cases hlt : i < T.length
    · have hltz : (i : Int) < T.length := by omega
      by_cases h10 : T[i].toNat = 10
      · have h10z : ((T[i].toNat : Int) == 10) = true := by simp; omega
        have hsn := nlPos_snoc T i hlt
        rw [if_pos h10] at hsn
        have HN : Hid (nlPos (T.take (i + 1)) 0 = nlPos (T.take i) 0 ++ [i + 1]) := hsn
        clear hsn h10
        have own := nrow.lt
        have hsz := hB.size
        have hlF : (0 :: nlPos (T.take i) 0).length ≤ 501 := by
          have := froms_le (T.take i)
          unfold froms at this
          rw [List.length_take] at this; omega
        go_wp2_with (at_builtin; refine wpList_append_own _ rfl _ _ 22 rfl (w2.heap.size + 1) 3 i0 (.int .i64 0) 1 8 Tryd.underlying22 hi hz0 hz1 hz2 rfl (by omega) _ _ _ rfl (nrow.alloc _) ⟨wr.heap.size, 0, none⟩ 1 1 [.int .i64 ((i : Int) + 1)] rfl ?qd1 ?qd2 ?qd3 ?qd4 ?qd5 ?qd6 ?_)
        case qd1 => rfl
        case qd2 =>
          intro j u hj
          rw [Addr.add_lit, Nat.zero_add]
          exact fresh_num _ _ _ rfl j u hj
        case qd3 => intro u hu; simp at hu; subst hu; rfl
        case qd4 => unfold maxLen; omega
        case qd5 => omega
        case qd6 => simp at hsz ⊢; omega
        intro v2 w4 hown hgrow hnil
        have hB4 : Below (w2.heap.size + 1) (w2.alloc (.cells #[.int .i64 li, .int .i64 co] 25)) w4 := (hB.alloc (by simp at hsz; omega) _).grown hgrow (by simp at hsz ⊢; omega) (fun k hk => (own k hk).1)
        clear hgrow hnil own
        go_wp2_with fail
        refine ⟨⟨i + 1, by omega, by go_num, ?_, hB4⟩, by simp [intOf]; omega⟩
        rw [HN.out, ← List.cons_append]
        refine NRow.snoc ?_
        have e : ((i + 1 : Nat) : Int) = (i : Int) + 1 := by omega
        rw [e]
        exact hown
      · have h10z : ((T[i].toNat : Int) == 10) = false := by simp; omega
        have hsn := nlPos_snoc T i hlt
        rw [if_neg h10] at hsn
        have HN : Hid (nlPos (T.take (i + 1)) 0 = nlPos (T.take i) 0) := hsn
        clear hsn h10
        go_wp2_with fail
        refine ⟨⟨i + 1, by omega, by go_num, ?_, hB⟩, by simp [intOf]; omega⟩
        rw [HN.out]
        exact nrow
    · have hltz : ¬ (i : Int) < T.length := by omega
      rw [List.take_of_length_le (by omega)] at nrow
      obtain ⟨gf, cf, rfl, hcf1, hcf2, nt⟩ := nrow.form (by simp)
      have hFl := froms_le T
      have hbd : ∀ x ∈ froms T, x ≤ 500 := by
        intro x hx
        unfold froms at hx
        rcases List.mem_cons.1 hx with rfl | hx
        · omega
        · have := nlPos_bound T 0 x hx; omega
      change Nats wr gf (froms T) at nt
      change (froms T).length ≤ cf at hcf1
      have sz := hB.size
      have nb : Below w2.heap.size w2 wr := ((Below.refl _ w2).alloc (Nat.le_refl _) _).trans (hB.mono (by omega))
      have SW : Hid (Sl wr av cp ts) := SL.out.next nb
      have RW := R2.next nb
      have pW := p2.next nb
      have sp : Sp wr w2.heap.size li co := by
        have h := Sp.fresh w2 li co
        have hc0 := hB.cell (p := ⟨w2.heap.size, 0, none⟩) (by simp)
        have hc1 := hB.cell (p := ⟨w2.heap.size, 1, none⟩) (by simp)
        have hf0 := hB.frozen (p := ⟨w2.heap.size, 0, none⟩) (by simp)
        have hf1 := hB.frozen (p := ⟨w2.heap.size, 1, none⟩) (by simp)
        exact ⟨hc0.trans h.c0, hc1.trans h.c1, hf0.trans h.f0, hf1.trans h.f1⟩
      have hNe : (0 :: nlPos T 0).length = (froms T).length := rfl
      rw [hNe]
      have NT : Hid (Nats wr gf (froms T)) := nt
      have HB : Hid (∀ x ∈ froms T, x ≤ 500) := hbd
      clear nrow nt hB nb sz SL R2 p2 hbd hNe
      generalize hF : froms T = F at *
      have HF : Hid (froms T = F) := hF
      clear hF
      go_wp2_with fail
      go_loopw [9] (fun x wy => ∃ j : Nat, j ≤ ts.length ∧ x = .int .i64 j ∧ Hid (Sl wy av cp ts) ∧ Hid (Nats wy gf F) ∧ Sp wy w2.heap.size li co ∧ Rng wy ∧ Past w wy) (fun x _ => ts.length - (intOf x).toNat)
      case atStart => exact ⟨0, Nat.zero_le _, rfl, SW, NT, sp, RW, pW⟩
      case round =>
        obtain ⟨j, hj, rfl, SW, NT, sp, RW, pW⟩ := hrel
        by_cases hlj : j < ts.length
        · have hljz : (j : Int) < ts.length := by omega
          rcases SW.out with h | ⟨g, rfl, hgc, hgm, tk⟩
          · omega
          have ta := tk.at j hlj
          have TK : Hid (Toks wr g 0 ts) := tk
          have hS := HS.out.1 ts[j] (List.getElem_mem hlj)
          clear tk
          generalize ts[j] = y at ta hS
          obtain ⟨yk, yn, yl, yc, yt⟩ := y
          obtain ⟨L, s, c, hL, hs, hc, hsc, hkind⟩ := hS
          simp only at hL hc hkind
          subst hL
          subst hc
          rw [HF.out] at hs
          have hLF := (List.getElem?_eq_some_iff.1 hs).1
          have hcs := NT.out.2 L s hs
          have hs5 := HB.out s (List.mem_of_getElem? hs)
          have hgfl := NT.out.1
          clear hs
          obtain ⟨c0, c1, c2, c3, c4⟩ := ta
          simp only [Nat.zero_add] at c0 c1 c2 c3 c4
          have z1 : ¬ ((L : Int) + 1 < 1) := by omega
          have z2 : ¬ ((F.length : Int) < (L : Int) + 1) := by omega
          have z3 : ¬ ((c : Int) + 1 < 1) := by omega
          go_wp2_with fail
          go_quiet ((fail))
          rw [show ((s : Int) + ((c : Int) + 1) - 1) = ((s + c : Nat) : Int) by omega]
          generalize s + c = p at hsc hkind
          have y1 : ¬ ((T.length : Int) ≤ p) := by omega
          have y2 : ¬ ((p : Int) < 0) := by omega
          have fin : ∀ (t : List UInt8) (n : Nat), Below wr.heap.size wr ((wr.alloc (.cells #[.int .i64 yk, .int .i64 yn, .int .i64 ((L : Int) + 1), .int .i64 ((c : Int) + 1), .string ⟨t.toArray⟩] 27)).drewN n) := fun t n => ((Below.refl _ wr).alloc (Nat.le_refl _) _).trans ⟨rfl, rfl, rfl, Nat.le_refl _, fun _ _ => rfl⟩
          have FIN : Hid (∀ (t : List UInt8) (n : Nat), Below wr.heap.size wr ((wr.alloc (.cells #[.int .i64 yk, .int .i64 yn, .int .i64 ((L : Int) + 1), .int .i64 ((c : Int) + 1), .string ⟨t.toArray⟩] 27)).drewN n)) := fin
          clear fin
          rcases hkind with ⟨hk3, rfl, ht10⟩ | ⟨hk3, hyt, hpl, hmid⟩
          · have hk3z : (yk == 3) = true := by simp [hk3]
            rw [List.getElem?_eq_getElem hsc] at ht10
            have h10 : T[p].toNat = 10 := by simpa using ht10
            have h10z : ((T[p].toNat : Int) != 10) = false := by simp; omega
            clear ht10 h10 hk3
            go_wp2_with fail
            have fin := FIN.out [] nq
            exact ⟨⟨j + 1, by omega, by go_num, Sl.next (Or.inr ⟨g, rfl, hgc, hgm, TK.out⟩) fin, NT.out.next fin, sp.next fin, RW.next fin, pW.next fin⟩, by simp [intOf]; omega⟩
          · have hk3z : (yk == 3) = false := by simp [hk3]
            have hyl : ((yt.length : Int) == 0) = false := by
              simp; intro e; exact hyt e
            have hytl : yt.length ≤ 500 := by omega
            have hp5 : p ≤ 500 := by omega
            have hwr : IntKind.i64.wrap ((p : Int) + yt.length) = (p : Int) + yt.length := by
              unfold IntKind.wrap
              simp [IntKind.signed, IntKind.bits]
              omega
            have hplz : (p : Int) + yt.length ≤ T.length := by omega
            have htn : ((p : Int) + yt.length).toNat = p + yt.length := by omega
            have hpz : decide ((T.length : Int) < (p : Int) + yt.length) = false := by simp; omega
            have hsl := slice_text T p yt.length yt hpl hmid
            clear hk3 hmid
            go_wp2_with fail
            go_quiet ((fail))
            go_wp2_with fail
            exact ⟨⟨j + 1, by omega, by go_num, Sl.next (Or.inr ⟨g, rfl, hgc, hgm, TK.out⟩) (FIN.out yt _), NT.out.next (FIN.out yt _), sp.next (FIN.out yt _), RW.next (FIN.out yt _), pW.next (FIN.out yt _)⟩, by simp [intOf]; omega⟩
        · have hljz : ¬ (j : Int) < ts.length := by omega
          go_wp2_with fail
          refine (told_any _ RW).mono ?_
          rintro e w5 ⟨rfl, b5⟩
          have p5 := pW.next b5
          have s5 := sp.next b5
          obtain ⟨e0, e1, _, _⟩ := s5
          obtain ⟨h1, h2, h3⟩ := HS.out.2
          rw [HF.out] at h2
          have k1 : (1 : Int) ≤ li := h1
          rcases HC.out with rfl | rfl
          · go_wp2
            go_ret
            exact ⟨rfl, p5⟩
          · go_wp2
            go_ret
            exact ⟨rfl, p5⟩

theorem spots_law (ao : Option Addr) (len cap : Nat) (zs : List Int) {w0 : World} (hz : IsRow .i64 w0 ao len cap zs) (w : World) (hR : Rng w) (hw : w0 = w) :
    Calls Tryd.prog 6 #[.slice ao len cap] w fun e w' => e = .returned (.bool true) ∧ Below w.heap.size w w' := by
  subst hw
  exact spots_any ao len cap hz.len w0 hR (hz.ints 25)
end Go.Proofs.YthdcglgojdclkaaDoor
