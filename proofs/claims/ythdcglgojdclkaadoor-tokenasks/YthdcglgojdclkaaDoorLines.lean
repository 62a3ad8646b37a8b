/- TokenLines' walk: it answers true whatever the pieces. -/
import Derived.Test.YthdcglgojdclkaaDoorLinesP
import Derived.Test.YthdcglgojdclkaaDoorText
import Derived.Deep.QuietTactic
import Derived.BigQuiet
namespace Go.Proofs.YthdcglgojdclkaaDoor
open Go.RowKit Go.Shelf
set_option linter.unusedVariables false

/-- A slice whose tokens lie in one block, or that has none. -/
def Sl (w : World) (av : Option Addr) (cp : Nat) (ts : List Tok) : Prop := ts.length = 0 ∨ ∃ g, av = some ⟨g, 0, none⟩ ∧ ts.length ≤ cp ∧ cp ≤ 9223372036854775807 ∧ Toks w g 0 ts
theorem Sl.next {w w' : World} {av : Option Addr} {cp : Nat} {ts : List Tok} (h : Sl w av cp ts) (hb : Below w.heap.size w w') : Sl w' av cp ts := by
  rcases h with h | ⟨g, h1, h2, h3, h4⟩
  · exact Or.inl h
  · exact Or.inr ⟨g, h1, h2, h3, h4.next hb⟩
theorem Row.form {w : World} {base : Nat} {v : Value} {ts : List Tok} (h : Row w base v ts) : ∃ av cp, v = .slice av ts.length cp ∧ Sl w av cp ts := by
  rcases h.toks with ⟨rfl, rfl⟩ | ⟨g, cp, rfl, hg, hgl, hgc, hgm, tk⟩
  · exact ⟨none, 0, rfl, Or.inl rfl⟩
  · exact ⟨some ⟨g, 0, none⟩, cp, rfl, Or.inr ⟨g, rfl, hgc, by unfold maxLen at hgm; omega, tk⟩⟩
theorem endsN_le (ts : List Tok) (a : Nat) : endsN (ts.take a) ≤ a := by
  unfold endsN
  have h1 := List.countP_le_length (p := endB) (l := ts.take a)
  rw [List.length_take] at h1; omega
theorem lineTs_len (ts : List Tok) (k : Nat) (hk : k ≤ ts.length) : (lineTs ts k).length = lineLen (ts.drop k) := by
  unfold lineTs
  have := lineLen_le (ts.drop k)
  rw [List.length_take]; omega
theorem lineTs_at (ts : List Tok) (k i : Nat) (hi : i < lineLen (ts.drop k)) : (lineTs ts k)[i]? = ts[k + i]? := by
  unfold lineTs
  rw [List.getElem?_take, if_pos hi, List.getElem?_drop]
/-- Where a line ends, and what comes behind it. -/
theorem lineNext_nat (ts : List Tok) (k : Nat) (hk : k < ts.length) : ∃ q : Nat, lineNext ts k = q ∧ k < q ∧ q ≤ ts.length ∧ k + lineLen (ts.drop k) ≤ q ∧ k + lineLen (ts.drop k) ≤ ts.length ∧ (k + lineLen (ts.drop k) < ts.length → q = k + lineLen (ts.drop k) + 1) ∧ (¬ k + lineLen (ts.drop k) < ts.length → q = k + lineLen (ts.drop k)) := by
  have hle := lineLen_le (ts.drop k)
  rw [List.length_drop] at hle
  unfold lineNext
  by_cases h : k + lineLen (ts.drop k) < ts.length
  · rw [if_pos h]
    exact ⟨k + lineLen (ts.drop k) + 1, by simp, by omega, by omega, by omega, by omega, fun _ => rfl, fun h' => absurd h h'⟩
  · rw [if_neg h]
    exact ⟨ts.length, rfl, hk, by omega, by omega, by omega, fun h' => absurd h' h, fun _ => by omega⟩
theorem below_draws (w : World) (n : Nat) : Below w.heap.size w (w.drewN n) := ⟨rfl, rfl, rfl, Nat.le_refl _, fun _ _ => rfl⟩
theorem TokAt.eq {w : World} {b o : Nat} {t u : Tok} (h : TokAt w b o t) (e : t = u) : TokAt w b o u := e ▸ h

set_option maxRecDepth 100000 in
set_option maxHeartbeats 2000000 in
theorem lines_any (ao : Option Addr) (len cap : Nat) (hlen : len ≤ 9223372036854775807) (w : World) (hR : Rng w) (hI : Ints w ao (min len 25)) :
    Calls Tryd.prog 5 #[.slice ao len cap] w fun e w' => e = .returned (.bool true) ∧ Below w.heap.size w w' := by
  have HI : Hid (Ints w ao (min len 25)) := hI
  clear hI
  go_enter Tryd.func5, Tryd.ntmps5
  go_wp2_with fail
  refine (text_any ao len cap hlen _ HI.out).mono ?_
  rintro e w1 ⟨T, rfl, hT, b1⟩
  have R1 := hR.next b1
  have p1 : Past w w1 := b1
  clear b1 hR HI
  have hcode := allP_code T.length T 1 1 (Nat.le_refl _)
  have hlines := allP_lines T.length T 1 1 (Nat.le_refl _)
  have htl := allP_len T.length T 1 1 (Nat.le_refl _)
  generalize hA : allP T 1 1 = A at hcode hlines htl
  obtain ⟨ts, li, co, code⟩ := A
  simp only at hcode hlines htl
  have HL : Hid (∀ j t, ts[j]? = some t → t.2.2.1 = 1 + (endsN (ts.take j) : Int)) := hlines
  have HC : Hid (code = 0 ∨ code = 2) := hcode
  clear hlines hcode
  go_wp2_with fail
  refine (all_any T (by omega) _ R1 ts li co code (by rw [allOf_P]; exact hA)).mono ?_
  rintro e w2 ⟨v, rfl, row, b2⟩
  have R2 := R1.next b2
  have p2 := p1.next b2
  clear b2 R1 p1 hA
  obtain ⟨av, cp, rfl, sl⟩ := row.form
  have SL : Hid (Sl w2 av cp ts) := sl
  clear row sl
  go_wp2_with fail
  go_loopw [7, 8, 9] (fun n e a wr => ∃ k : Nat, k ≤ ts.length ∧ n = .int .i64 k ∧ e = .int .i64 (endsN (ts.take k)) ∧ a = .int .i64 k ∧ Hid (Sl wr av cp ts) ∧ Rng wr ∧ Past w wr) (fun _ _ a _ => ts.length - (intOf a).toNat)
  case atStart => exact ⟨0, Nat.zero_le _, rfl, rfl, rfl, SL.out.next ((Below.refl _ _).alloc (Nat.le_refl _) _), R2.alloc _, p2.alloc _⟩
  case round =>
    obtain ⟨k, hk, rfl, rfl, rfl, SW, RW, pW⟩ := hrel
    have hen := endsN_le ts k
    generalize hE : endsN (ts.take k) = E at hen
    have HE : Hid (endsN (ts.take k) = E) := hE
    clear hE
    by_cases hlt : k < ts.length
    · have hlz : (k : Int) < ts.length := by omega
      rcases SW.out with h | ⟨g, rfl, hgc, hgm, tk⟩
      · omega
      have TK : Hid (Toks wr g 0 ts) := tk
      clear tk SW
      go_wp2_with fail
      refine (line_in ts g 0 cp (by omega) hgc (by unfold maxLen; omega) k hlt _ TK.out).mono ?_
      rintro e w3 ⟨v3, rfl, row3, b3⟩
      obtain ⟨q, hq, q1, q2, q3, q4, q5, q6⟩ := lineNext_nat ts k hlt
      have hXl := lineTs_len ts k hk
      have hXi := lineTs_at ts k
      have hno := lineLen_no (ts.drop k)
      have hin := ends_in ts k
      have hnx := ends_next ts k hk
      generalize lineLen (ts.drop k) = M at q3 q4 q5 q6 hXl hXi hno hin hnx
      generalize lineTs ts k = X at row3 hXl hXi
      rw [hq]
      clear hq
      obtain ⟨av3, cp3, rfl, sl3⟩ := row3.form
      have S3 : Hid (Sl w3 av3 cp3 X) := sl3
      have SG : Hid (Toks w3 g 0 ts) := TK.out.next b3
      have HX : Hid (X.length = M ∧ (∀ i, i < M → X[i]? = ts[k + i]?) ∧ (∀ i (h : i < M) (hi : i < (ts.drop k).length), endB (ts.drop k)[i] = false) ∧ (∀ i, k ≤ ts.length → i ≤ M → endsN (ts.take (k + i)) = endsN (ts.take k)) ∧ (k + M < ts.length → endsN (ts.take (k + M + 1)) = endsN (ts.take k) + 1) ∧ (k + M < ts.length → q = k + M + 1) ∧ (¬ k + M < ts.length → q = k + M)) := ⟨hXl, hXi, hno, hin, hnx, q5, q6⟩
      have R3 := RW.next b3
      have p3 := pW.next b3
      rw [hXl]
      clear row3 sl3 b3 TK hXl hXi hno hin hnx q5 q6 RW pW
      have q1z : ¬ (q : Int) ≤ k := by omega
      have q3z : ¬ ((q : Int) - k < M) := by omega
      go_wp2_with fail
      go_loopw [12] (fun s wx => ∃ i : Nat, i ≤ M ∧ s = .int .i64 i ∧ Hid (Sl wx av3 cp3 X) ∧ Hid (Toks wx g 0 ts) ∧ Rng wx ∧ Past w wx) (fun s _ => M - (intOf s).toNat)
      case atStart => exact ⟨0, Nat.zero_le _, rfl, S3, SG, R3, p3⟩
      case round =>
        obtain ⟨i, hi, rfl, S4, S5, R4, p4⟩ := hrel
        by_cases hil : i < M
        · have hilz : (i : Int) < M := by omega
          have hki : k + i < ts.length := by omega
          have e1 := HX.out.2.1 i hil
          rw [List.getElem?_eq_getElem hki] at e1
          have hXlen : i < X.length := by rw [HX.out.1]; exact hil
          rw [List.getElem?_eq_getElem hXlen] at e1
          have e1 := Option.some.inj e1
          obtain ⟨g3, rfl, hc3, hm3, tk3⟩ : ∃ g, av3 = some ⟨g, 0, none⟩ ∧ X.length ≤ cp3 ∧ cp3 ≤ 9223372036854775807 ∧ Toks wr g 0 X := by
            rcases S4.out with h | h
            · rw [HX.out.1] at h; omega
            · exact h
          have ta := tk3.at i hXlen
          have tb := S5.out.at (k + i) hki
          rw [e1] at ta
          have hend := HX.out.2.2.1 i hil (by rw [List.length_drop]; omega)
          rw [List.getElem_drop] at hend
          have hline := HL.out (k + i) ts[k + i] (List.getElem?_eq_getElem hki)
          rw [HX.out.2.2.2.1 i hk (by omega), HE.out] at hline
          generalize ts[k + i] = y at ta tb hend hline
          obtain ⟨yk, yn, yl, yc, yt⟩ := y
          obtain ⟨c0, c1, c2, c3, c4⟩ := ta
          obtain ⟨d0, d1, d2, d3, d4⟩ := tb
          unfold endB at hend
          simp only [Nat.zero_add] at c0 c1 c2 c3 c4 d0 d1 d2 d3 d4 hend hline
          subst hline
          clear e1
          have hcl : M ≤ cp3 := by rw [← HX.out.1]; exact hc3
          go_wp2_with fail
          go_quiet ((fail))
          go_wp2_with fail
          refine ⟨⟨i + 1, by omega, by go_num, S4.out.next (below_draws _ _), S5.out.next (below_draws _ _), R4.next (below_draws _ _), p4.next (below_draws _ _)⟩, by simp [intOf]; omega⟩
        · have hilz : ¬ (i : Int) < M := by omega
          by_cases hM : k + M < ts.length
          · have hMz : (k : Int) + M < ts.length := by omega
            have hq := HX.out.2.2.2.2.2.1 hM
            have he := HX.out.2.2.2.2.1 hM
            rw [HE.out, ← hq] at he
            have HQ : Hid (q = k + M + 1 ∧ endsN (ts.take q) = E + 1) := ⟨hq, he⟩
            clear hq he
            go_wp2_with fail
            refine ⟨⟨q, q2, ?_, ?_, rfl, Or.inr ⟨g, rfl, hgc, hgm, S5.out⟩, R4, p4⟩, by simp [intOf]; omega⟩
            · rw [HQ.out.1]; go_num
            · rw [HQ.out.2]; go_num
          · have hMz : ¬ (k : Int) + M < ts.length := by omega
            have hq := HX.out.2.2.2.2.2.2 hM
            have he := HX.out.2.2.2.1 M hk (Nat.le_refl _)
            rw [HE.out, ← hq] at he
            have HQ : Hid (q = k + M ∧ endsN (ts.take q) = E) := ⟨hq, he⟩
            clear hq he
            go_wp2_with fail
            refine ⟨⟨q, q2, ?_, ?_, rfl, Or.inr ⟨g, rfl, hgc, hgm, S5.out⟩, R4, p4⟩, by simp [intOf]; omega⟩
            · rw [HQ.out.1]; go_num
            · rw [HQ.out.2]
    · have hlz : ¬ (k : Int) < ts.length := by omega
      have hke : ((k : Int) == (ts.length : Int)) = true := by simp; omega
      go_wp2_with fail
      refine (told_any _ RW).mono ?_
      rintro e w4 ⟨rfl, b4⟩
      have p4 := pW.next b4
      rcases HC.out with rfl | rfl
      · go_wp2
        go_ret
        exact ⟨rfl, p4⟩
      · go_wp2
        go_ret
        exact ⟨rfl, p4⟩

theorem lines_law (ao : Option Addr) (len cap : Nat) (zs : List Int) {w0 : World} (hz : IsRow .i64 w0 ao len cap zs) (w : World) (hR : Rng w) (hw : w0 = w) :
    Calls Tryd.prog 5 #[.slice ao len cap] w fun e w' => e = .returned (.bool true) ∧ Below w.heap.size w w' := by
  subst hw
  exact lines_any ao len cap hz.len w0 hR (hz.ints 25)
end Go.Proofs.YthdcglgojdclkaaDoor
