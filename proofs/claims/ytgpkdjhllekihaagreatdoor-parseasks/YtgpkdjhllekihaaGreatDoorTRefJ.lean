/- parterreref2.Next by its contract: the same answer as token.Next's. -/
import Derived.Test.YtgpkdjhllekihaaGreatDoorTRefW
import Derived.Test.YtgpkdjhllekihaaGreatDoorTRefM1
import Derived.Test.YtgpkdjhllekihaaGreatDoorTRefM2
import Derived.Test.YtgpkdjhllekihaaGreatDoorTRefD
namespace Go.Proofs.YtgpkdjhllekihaaGreatDoor.Tok
open Go.RowKit Go.Shelf
set_option linter.unusedVariables false

theorem span_to (p : UInt8 → Bool) (l : List UInt8) (P : Nat) (hP : P ≤ l.length) :
  (∀ j (hj : j < l.length), P ≤ j → j < P + spanL p (l.drop P) → p l[j] = true) ∧ ∀ h : P + spanL p (l.drop P) < l.length, p l[P + spanL p (l.drop P)] = false := by
 have key : ∀ (r : List UInt8), (∀ j (hj : j < r.length), j < spanL p r → p r[j] = true) ∧ ∀ h : spanL p r < r.length, p r[spanL p r] = false := by
  intro r
  induction r with
  | nil => exact ⟨fun j hj => by simp at hj, fun h => by simp at h⟩
  | cons c r ih =>
   cases hc : p c with
   | true =>
    have e : spanL p (c :: r) = spanL p r + 1 := by rw [spanL_cons, if_pos hc]
    refine ⟨?_, ?_⟩
    ·intro j hj hlt
     cases j with
     | zero => exact hc
     | succ j => exact ih.1 j (by simpa using hj) (by omega)
    ·intro h
     have h2 : spanL p r < r.length := by rw [e] at h; simpa using h
     simp only [e]
     exact ih.2 h2
   | false =>
    have e : spanL p (c :: r) = 0 := by rw [spanL_cons, if_neg (by simp [hc])]
    refine ⟨fun j hj hlt => by omega, fun h => by simp only [e]; exact hc⟩
 have k := key (l.drop P)
 refine ⟨fun j hj h1 h2 => ?_, fun h => ?_⟩
 ·have := k.1 (j - P) (by rw [List.length_drop]; omega) (by omega)
  rw [List.getElem_drop] at this
  have e : P + (j - P) = j := by omega
  simp only [e] at this
  exact this
 ·have := k.2 (by rw [List.length_drop]; omega)
  rw [List.getElem_drop] at this
  exact this

theorem num_ref (c : UInt8) (r : List UInt8) (hl : (c :: r).length ≤ 1048576) (hr : ∀ d ∈ r, digitB d = true) (hc : digitB c = true ∨ c.toNat = 45) :
  ∃ x b, (∀ w : World, Calls Tryz.prog 58 #[.string ⟨(c :: r).toArray⟩] w fun e w' => e = .returned (.tuple #[.int .i64 x, .bool b]) ∧ w' = w) ∧ num32 (c :: r) = if b then some x else none := by
 refine ⟨_, _, fun w => number_walk (c :: r) hl (by simp) ((c.toNat : Int) == 45) rfl w _ _ ⟨rfl, rfl⟩, ?_⟩
 have hf : r.filter digitB = r := List.filter_eq_self.2 hr
 unfold digV
 rw [List.take_of_length_le (Nat.le_refl _)]
 rcases hc with hc | hc
 ·have h45 : ((c.toNat : Int) == 45) = false := by unfold digitB at hc; simp at hc ⊢; omega
  have hff : (c :: r).filter digitB = c :: r := by rw [List.filter_cons, if_pos hc, hf]
  rw [hff, h45]
  have hh : ¬ (Option.map (·.toNat) (c :: r).head? = some 45) := by simp at h45 ⊢; omega
  unfold num32 numX numOk
  rw [if_neg hh]
  generalize valL 0 (c :: r) = V
  by_cases hV : V ≤ 2147483647
  ·have e : min V 1099511627776 = V := by omega
   rw [if_pos hV, e, if_pos]
   ·rfl
   ·simp; omega
  ·rw [if_neg hV, if_neg]
   simp; omega
 ·have h45 : ((c.toNat : Int) == 45) = true := by simp; omega
  have hnd : digitB c = false := by unfold digitB; simp; omega
  have hff : (c :: r).filter digitB = r := by rw [List.filter_cons, if_neg (by simp [hnd]), hf]
  rw [hff, h45]
  have hh : Option.map (·.toNat) (c :: r).head? = some 45 := by simp [hc]
  unfold num32 numX numOk
  rw [if_pos hh, List.tail_cons]
  generalize valL 0 r = V
  by_cases hV : V ≤ 2147483648
  ·have e : min V 1099511627776 = V := by omega
   rw [if_pos hV, e, if_pos]
   ·rfl
   ·simp; omega
  ·rw [if_neg hV, if_neg]
   simp; omega

theorem rnext_word (l : List UInt8) (hl : l.length ≤ 1048576) (a : Nat) (ha : a ≤ l.length) (li co : Int) (hli : 0 ≤ li) (hli2 : li ≤ 1099511627776) (hco : 0 ≤ co) (hco2 : co ≤ 1099511627776) (w : World) (k : Nat) (hK : unsaidL (l.drop a) = k) (hak : a + k ≤ l.length) (hk : a + k < l.length) (h10 : ((l[a + k].toNat : Int) == 10) = false) (hLt : letterB l[a + k] = true)
  (hread : readL (l.drop (a + k)) = wordL (l.drop (a + k))) : Calls Tryz.prog 30 #[.string ⟨l.toArray⟩, .int .i64 a, .agg #[.int .i64 li, .int .i64 co]] w fun e w' => e = .returned (nextV (nextL l a li co)) ∧ Below w.heap.size w w' := by
 have hto := span_to letterB l (a + k) hak
 have hle := spanL_le letterB (l.drop (a + k))
 rw [List.length_drop] at hle
 have hwL : wordL (l.drop (a + k)) = if badW (l.drop (a + k + spanL letterB (l.drop (a + k)))) then (0, 0, [], spanL letterB (l.drop (a + k)), false) else (1, 0, (l.drop (a + k)).take (spanL letterB (l.drop (a + k))), spanL letterB (l.drop (a + k)), true) := by
  unfold wordL; rw [List.drop_drop]
 generalize spanL letterB (l.drop (a + k)) = s at *
 have hXt : (l.drop (a + k)).take (a + k + s - (a + k)) = (l.drop (a + k)).take s := by rw [show a + k + s - (a + k) = s by omega]
 generalize (l.drop (a + k)).take s = X at *
 have hqc : ((a + k + s : Nat) : Int) = (a : Int) + k + (s : Int) := by omega
 unfold nextL
 rw [hK, if_neg (by omega), hread, hwL]
 by_cases hql : a + k + s < l.length
 ·have hdq : l.drop (a + k + s) = l[a + k + s] :: l.drop (a + k + s + 1) := List.drop_eq_getElem_cons hql
  have hbw : badW (l.drop (a + k + s)) = (digitB l[a + k + s] || (l[a + k + s].toNat : Int) == 45) := by rw [hdq]; rfl
  rw [hbw]
  cases hdg : digitB l[a + k + s] with
  | true =>
   have := rnext_w2 l hl a ha li co hli hli2 hco hco2 w k hK hak hk h10 hLt (a + k + s) (by omega) (by omega) hto X hXt s (by omega) rfl hql (by omega) (hto.2 hql) hdg
   rw [Bool.true_or, if_pos rfl]
   exact this
  | false =>
   cases h45 : ((l[a + k + s].toNat : Int) == 45) with
   | true =>
    have := rnext_w3 l hl a ha li co hli hli2 hco hco2 w k hK hak hk h10 hLt (a + k + s) (by omega) (by omega) hto X hXt s (by omega) rfl hql (by omega) (hto.2 hql) hdg h45
    rw [Bool.or_true, if_pos rfl]
    exact this
   | false =>
    have := rnext_w4 l hl a ha li co hli hli2 hco hco2 w k hK hak hk h10 hLt (a + k + s) (by omega) (by omega) hto X hXt s (by omega) rfl hql (by omega) (hto.2 hql) hdg h45
    rw [Bool.or_false, if_neg (by simp)]
    dsimp only
    rw [if_neg (by omega), if_neg (by omega), ← hqc]
    exact this
 ·have hbw : badW (l.drop (a + k + s)) = false := by rw [List.drop_of_length_le (by omega)]; rfl
  have := rnext_w1 l hl a ha li co hli hli2 hco hco2 w k hK hak hk h10 hLt (a + k + s) (by omega) (by omega) hto X hXt s (by omega) rfl (show a + k + s = l.length by omega) (by omega)
  rw [hbw, if_neg (by simp)]
  dsimp only
  rw [if_neg (by omega), if_neg (by omega), ← hqc]
  exact this

theorem rnext_num_m (l : List UInt8) (hl : l.length ≤ 1048576) (a : Nat) (ha : a ≤ l.length) (li co : Int) (hli : 0 ≤ li) (hli2 : li ≤ 1099511627776) (hco : 0 ≤ co) (hco2 : co ≤ 1099511627776) (w : World) (k : Nat) (hK : unsaidL (l.drop a) = k) (hak : a + k ≤ l.length) (hk : a + k < l.length) (h10 : ((l[a + k].toNat : Int) == 10) = false) (hLt : letterB l[a + k] = false) (hs45 : ((l[a + k].toNat : Int) == 45) = true) (hc : digitB l[a + k] = true ∨ l[a + k].toNat = 45) (hsp : spanL digitB (l.drop (a + k + 1)) ≠ 0 ∨ digitB l[a + k] = true)
  (hread : readL (l.drop (a + k)) = numL (l.drop (a + k))) : Calls Tryz.prog 30 #[.string ⟨l.toArray⟩, .int .i64 a, .agg #[.int .i64 li, .int .i64 co]] w fun e w' => e = .returned (nextV (nextL l a li co)) ∧ Below w.heap.size w w' := by
 have hd1 : l.drop (a + k) = l[a + k] :: l.drop (a + k + 1) := List.drop_eq_getElem_cons hk
 have hto := span_to digitB l (a + k + 1) (by omega)
 have hle := spanL_le digitB (l.drop (a + k + 1))
 rw [List.length_drop] at hle
 have hall := takeWhile_all digitB (l.drop (a + k + 1))
 generalize hS : spanL digitB (l.drop (a + k + 1)) = s at *
 have hX : (l.drop (a + k)).take (1 + s) = l[a + k] :: (l.drop (a + k + 1)).take s := by rw [hd1, Nat.add_comm 1, List.take_succ_cons]
 obtain ⟨x, b, hcall, hnum⟩ := num_ref l[a + k] ((l.drop (a + k + 1)).take s) (by simp; omega) hall hc
 have hQ : (∀ j (hj : j < l.length), a + k + 1 ≤ j → j < a + k + (1 + s) → digitB l[j] = true) ∧ ∀ h : a + k + (1 + s) < l.length, digitB l[a + k + (1 + s)] = false := by
  refine ⟨fun j hj h1 h2 => ?_, fun h => ?_⟩
  ·exact hto.1 j hj h1 (by omega)
  ·have := hto.2 (by omega)
   simp only [show a + k + 1 + s = a + k + (1 + s) by omega] at this
   exact this
 have hq1 : a + k + 1 ≤ a + k + (1 + s) := by omega
 have hq2 : a + k + (1 + s) ≤ l.length := by omega
 have hXt : (l.drop (a + k)).take (a + k + (1 + s) - (a + k)) = l[a + k] :: (l.drop (a + k + 1)).take s := by rw [show a + k + (1 + s) - (a + k) = 1 + s by omega, hX]
 have hne : (((a + k + (1 + s) : Nat) : Int) == ((a : Int) + k + 1)) = false := by
  rcases hsp with h | h
  ·simp; omega
  ·exfalso; unfold digitB at h; simp at h hs45; omega
 have hnumL : numL (l.drop (a + k)) = match num32 (l[a + k] :: (l.drop (a + k + 1)).take s) with
   | none => (0, 0, [], 0, false)
   | some v => if badN (l.drop (a + k + (1 + s))) then (0, 0, [], 1 + s, false) else (2, v, l[a + k] :: (l.drop (a + k + 1)).take s, 1 + s, true) := by
  unfold numL
  rw [show (l.drop (a + k)).tail = l.drop (a + k + 1) by rw [hd1, List.tail_cons], hS, hX, List.drop_drop]
  cases num32 (l[a + k] :: (l.drop (a + k + 1)).take s) <;> rfl
 generalize l[a + k] :: (l.drop (a + k + 1)).take s = X at *
 have hqc : ((a + k + (1 + s) : Nat) : Int) = (a : Int) + k + ((1 + s : Nat) : Int) := by omega
 unfold nextL
 rw [hK, if_neg (by omega), hread, hnumL]
 cases b with
 | false =>
  rw [show num32 X = none by rw [hnum]; rfl]
  dsimp only
  by_cases hql : a + k + (1 + s) < l.length
  ·have := rnext_mrmid l hl a ha li co hli hli2 hco hco2 w k hK hak hk h10 hLt hs45 (a + k + (1 + s)) hq1 hq2 hQ X hXt (1 + s) (by omega) rfl hql (by omega) (hQ.2 hql) hne x hcall
   simpa using this
  ·have := rnext_mrlen l hl a ha li co hli hli2 hco hco2 w k hK hak hk h10 hLt hs45 (a + k + (1 + s)) hq1 hq2 hQ X hXt (1 + s) (by omega) rfl (show a + k + (1 + s) = l.length by omega) (by omega) hne x hcall
   simpa using this
 | true =>
  rw [show num32 X = some x by rw [hnum]; rfl]
  dsimp only
  by_cases hql : a + k + (1 + s) < l.length
  ·have hdq : l.drop (a + k + (1 + s)) = l[a + k + (1 + s)] :: l.drop (a + k + (1 + s) + 1) := List.drop_eq_getElem_cons hql
   have hbn : badN (l.drop (a + k + (1 + s))) = (letterB l[a + k + (1 + s)] || (l[a + k + (1 + s)].toNat : Int) == 45) := by rw [hdq]; rfl
   rw [hbn]
   cases h45 : ((l[a + k + (1 + s)].toNat : Int) == 45) with
   | true =>
    have := rnext_m3 l hl a ha li co hli hli2 hco hco2 w k hK hak hk h10 hLt hs45 (a + k + (1 + s)) hq1 hq2 hQ X hXt (1 + s) (by omega) rfl hql (by omega) (hQ.2 hql) hne x hcall h45
    rw [Bool.or_true, if_pos rfl]
    exact this
   | false =>
    cases hLe : letterB l[a + k + (1 + s)] with
    | true =>
     have := rnext_m5 l hl a ha li co hli hli2 hco hco2 w k hK hak hk h10 hLt hs45 (a + k + (1 + s)) hq1 hq2 hQ X hXt (1 + s) (by omega) rfl hql (by omega) (hQ.2 hql) hne x hcall h45 hLe
     rw [Bool.or_false, if_pos rfl]
     exact this
    | false =>
     have := rnext_m4 l hl a ha li co hli hli2 hco hco2 w k hK hak hk h10 hLt hs45 (a + k + (1 + s)) hq1 hq2 hQ X hXt (1 + s) (by omega) rfl hql (by omega) (hQ.2 hql) hne x hcall h45 hLe
     rw [Bool.or_false, if_neg (by simp)]
     dsimp only
     rw [if_neg (by omega), if_neg (by omega), ← hqc]
     exact this
  ·have hbn : badN (l.drop (a + k + (1 + s))) = false := by rw [List.drop_of_length_le (by omega)]; rfl
   have := rnext_m1 l hl a ha li co hli hli2 hco hco2 w k hK hak hk h10 hLt hs45 (a + k + (1 + s)) hq1 hq2 hQ X hXt (1 + s) (by omega) rfl (show a + k + (1 + s) = l.length by omega) (by omega) hne x hcall
   rw [hbn, if_neg (by simp)]
   dsimp only
   rw [if_neg (by omega), if_neg (by omega), ← hqc]
   exact this

theorem rnext_num_d (l : List UInt8) (hl : l.length ≤ 1048576) (a : Nat) (ha : a ≤ l.length) (li co : Int) (hli : 0 ≤ li) (hli2 : li ≤ 1099511627776) (hco : 0 ≤ co) (hco2 : co ≤ 1099511627776) (w : World) (k : Nat) (hK : unsaidL (l.drop a) = k) (hak : a + k ≤ l.length) (hk : a + k < l.length) (h10 : ((l[a + k].toNat : Int) == 10) = false) (hLt : letterB l[a + k] = false) (hs45 : ((l[a + k].toNat : Int) == 45) = false) (hc : digitB l[a + k] = true ∨ l[a + k].toNat = 45) (hsp : spanL digitB (l.drop (a + k + 1)) ≠ 0 ∨ digitB l[a + k] = true)
  (hread : readL (l.drop (a + k)) = numL (l.drop (a + k))) : Calls Tryz.prog 30 #[.string ⟨l.toArray⟩, .int .i64 a, .agg #[.int .i64 li, .int .i64 co]] w fun e w' => e = .returned (nextV (nextL l a li co)) ∧ Below w.heap.size w w' := by
 have hd1 : l.drop (a + k) = l[a + k] :: l.drop (a + k + 1) := List.drop_eq_getElem_cons hk
 have hto := span_to digitB l (a + k + 1) (by omega)
 have hle := spanL_le digitB (l.drop (a + k + 1))
 rw [List.length_drop] at hle
 have hall := takeWhile_all digitB (l.drop (a + k + 1))
 generalize hS : spanL digitB (l.drop (a + k + 1)) = s at *
 have hX : (l.drop (a + k)).take (1 + s) = l[a + k] :: (l.drop (a + k + 1)).take s := by rw [hd1, Nat.add_comm 1, List.take_succ_cons]
 obtain ⟨x, b, hcall, hnum⟩ := num_ref l[a + k] ((l.drop (a + k + 1)).take s) (by simp; omega) hall hc
 have hQ : (∀ j (hj : j < l.length), a + k ≤ j → j < a + k + (1 + s) → digitB l[j] = true) ∧ ∀ h : a + k + (1 + s) < l.length, digitB l[a + k + (1 + s)] = false := by
  refine ⟨fun j hj h1 h2 => ?_, fun h => ?_⟩
  ·rcases Nat.eq_or_lt_of_le h1 with h | h
   ·subst h
    rcases hc with h' | h'
    ·exact h'
    ·exfalso; simp at hs45; omega
   ·exact hto.1 j hj h (by omega)
  ·have := hto.2 (by omega)
   simp only [show a + k + 1 + s = a + k + (1 + s) by omega] at this
   exact this
 have hq1 : a + k ≤ a + k + (1 + s) := by omega
 have hq2 : a + k + (1 + s) ≤ l.length := by omega
 have hXt : (l.drop (a + k)).take (a + k + (1 + s) - (a + k)) = l[a + k] :: (l.drop (a + k + 1)).take s := by rw [show a + k + (1 + s) - (a + k) = 1 + s by omega, hX]
 have hne : (((a + k + (1 + s) : Nat) : Int) == ((a : Int) + k)) = false := by
  simp; omega
 have hnumL : numL (l.drop (a + k)) = match num32 (l[a + k] :: (l.drop (a + k + 1)).take s) with
   | none => (0, 0, [], 0, false)
   | some v => if badN (l.drop (a + k + (1 + s))) then (0, 0, [], 1 + s, false) else (2, v, l[a + k] :: (l.drop (a + k + 1)).take s, 1 + s, true) := by
  unfold numL
  rw [show (l.drop (a + k)).tail = l.drop (a + k + 1) by rw [hd1, List.tail_cons], hS, hX, List.drop_drop]
  cases num32 (l[a + k] :: (l.drop (a + k + 1)).take s) <;> rfl
 generalize l[a + k] :: (l.drop (a + k + 1)).take s = X at *
 have hqc : ((a + k + (1 + s) : Nat) : Int) = (a : Int) + k + ((1 + s : Nat) : Int) := by omega
 unfold nextL
 rw [hK, if_neg (by omega), hread, hnumL]
 cases b with
 | false =>
  rw [show num32 X = none by rw [hnum]; rfl]
  dsimp only
  by_cases hql : a + k + (1 + s) < l.length
  ·have := rnext_drmid l hl a ha li co hli hli2 hco hco2 w k hK hak hk h10 hLt hs45 (a + k + (1 + s)) hq1 hq2 hQ X hXt (1 + s) (by omega) rfl hql (by omega) (hQ.2 hql) hne x hcall
   simpa using this
  ·have := rnext_drlen l hl a ha li co hli hli2 hco hco2 w k hK hak hk h10 hLt hs45 (a + k + (1 + s)) hq1 hq2 hQ X hXt (1 + s) (by omega) rfl (show a + k + (1 + s) = l.length by omega) (by omega) hne x hcall
   simpa using this
 | true =>
  rw [show num32 X = some x by rw [hnum]; rfl]
  dsimp only
  by_cases hql : a + k + (1 + s) < l.length
  ·have hdq : l.drop (a + k + (1 + s)) = l[a + k + (1 + s)] :: l.drop (a + k + (1 + s) + 1) := List.drop_eq_getElem_cons hql
   have hbn : badN (l.drop (a + k + (1 + s))) = (letterB l[a + k + (1 + s)] || (l[a + k + (1 + s)].toNat : Int) == 45) := by rw [hdq]; rfl
   rw [hbn]
   cases h45 : ((l[a + k + (1 + s)].toNat : Int) == 45) with
   | true =>
    have := rnext_d3 l hl a ha li co hli hli2 hco hco2 w k hK hak hk h10 hLt hs45 (a + k + (1 + s)) hq1 hq2 hQ X hXt (1 + s) (by omega) rfl hql (by omega) (hQ.2 hql) hne x hcall h45
    rw [Bool.or_true, if_pos rfl]
    exact this
   | false =>
    cases hLe : letterB l[a + k + (1 + s)] with
    | true =>
     have := rnext_d5 l hl a ha li co hli hli2 hco hco2 w k hK hak hk h10 hLt hs45 (a + k + (1 + s)) hq1 hq2 hQ X hXt (1 + s) (by omega) rfl hql (by omega) (hQ.2 hql) hne x hcall h45 hLe
     rw [Bool.or_false, if_pos rfl]
     exact this
    | false =>
     have := rnext_d4 l hl a ha li co hli hli2 hco hco2 w k hK hak hk h10 hLt hs45 (a + k + (1 + s)) hq1 hq2 hQ X hXt (1 + s) (by omega) rfl hql (by omega) (hQ.2 hql) hne x hcall h45 hLe
     rw [Bool.or_false, if_neg (by simp)]
     dsimp only
     rw [if_neg (by omega), if_neg (by omega), ← hqc]
     exact this
  ·have hbn : badN (l.drop (a + k + (1 + s))) = false := by rw [List.drop_of_length_le (by omega)]; rfl
   have := rnext_d1 l hl a ha li co hli hli2 hco hco2 w k hK hak hk h10 hLt hs45 (a + k + (1 + s)) hq1 hq2 hQ X hXt (1 + s) (by omega) rfl (show a + k + (1 + s) = l.length by omega) (by omega) hne x hcall
   rw [hbn, if_neg (by simp)]
   dsimp only
   rw [if_neg (by omega), if_neg (by omega), ← hqc]
   exact this

theorem rnext_zero_m (l : List UInt8) (hl : l.length ≤ 1048576) (a : Nat) (ha : a ≤ l.length) (li co : Int) (hli : 0 ≤ li) (hli2 : li ≤ 1099511627776) (hco : 0 ≤ co) (hco2 : co ≤ 1099511627776) (w : World) (k : Nat) (hK : unsaidL (l.drop a) = k) (hak : a + k ≤ l.length) (hk : a + k < l.length) (h10 : ((l[a + k].toNat : Int) == 10) = false) (hLt : letterB l[a + k] = false) (hs45 : ((l[a + k].toNat : Int) == 45) = true) (hz : spanL digitB (l.drop (a + k + 1)) = 0)
  (hread : readL (l.drop (a + k)) = (0, 0, [], 0, false)) : Calls Tryz.prog 30 #[.string ⟨l.toArray⟩, .int .i64 a, .agg #[.int .i64 li, .int .i64 co]] w fun e w' => e = .returned (nextV (nextL l a li co)) ∧ Below w.heap.size w w' := by
 have hto := span_to digitB l (a + k + 1) (by omega)
 rw [hz] at hto
 simp only [Nat.add_zero] at hto
 unfold nextL
 rw [hK, if_neg (by omega), hread]
 dsimp only
 have hne : (((a + k + 1 : Nat) : Int) == ((a : Int) + k + 1)) = true := by simp
 by_cases hql : a + k + 1 < l.length
 ·have := rnext_m0mid l hl a ha li co hli hli2 hco hco2 w k hK hak hk h10 hLt hs45 (a + k + 1) (Nat.le_refl _) (by omega) hto hql (by omega) (hto.2 hql) hne
  simpa using this
 ·have := rnext_m0len l hl a ha li co hli hli2 hco hco2 w k hK hak hk h10 hLt hs45 (a + k + 1) (Nat.le_refl _) (by omega) hto (show a + k + 1 = l.length by omega) (by omega) hne
  simpa using this

theorem rnext_zero_d (l : List UInt8) (hl : l.length ≤ 1048576) (a : Nat) (ha : a ≤ l.length) (li co : Int) (hli : 0 ≤ li) (hli2 : li ≤ 1099511627776) (hco : 0 ≤ co) (hco2 : co ≤ 1099511627776) (w : World) (k : Nat) (hK : unsaidL (l.drop a) = k) (hak : a + k ≤ l.length) (hk : a + k < l.length) (h10 : ((l[a + k].toNat : Int) == 10) = false) (hLt : letterB l[a + k] = false) (hs45 : ((l[a + k].toNat : Int) == 45) = false) (hz : spanL digitB (l.drop (a + k)) = 0)
  (hread : readL (l.drop (a + k)) = (0, 0, [], 0, false)) : Calls Tryz.prog 30 #[.string ⟨l.toArray⟩, .int .i64 a, .agg #[.int .i64 li, .int .i64 co]] w fun e w' => e = .returned (nextV (nextL l a li co)) ∧ Below w.heap.size w w' := by
 have hto := span_to digitB l (a + k) (by omega)
 rw [hz] at hto
 simp only [Nat.add_zero] at hto
 unfold nextL
 rw [hK, if_neg (by omega), hread]
 dsimp only
 have hne : (((a + k : Nat) : Int) == ((a : Int) + k)) = true := by simp
 by_cases hql : a + k < l.length
 ·have := rnext_d0mid l hl a ha li co hli hli2 hco hco2 w k hK hak hk h10 hLt hs45 (a + k) (Nat.le_refl _) (by omega) hto hql (by omega) (hto.2 hql) hne
  simpa using this
 ·have := rnext_d0len l hl a ha li co hli hli2 hco hco2 w k hK hak hk h10 hLt hs45 (a + k) (Nat.le_refl _) (by omega) hto (show a + k = l.length by omega) (by omega) hne
  simpa using this

theorem rnext_any (l : List UInt8) (hl : l.length ≤ 1048576) (a : Nat) (ha : a ≤ l.length) (li co : Int) (hli : 0 ≤ li) (hli2 : li ≤ 1099511627776) (hco : 0 ≤ co) (hco2 : co ≤ 1099511627776) (w : World) : Calls Tryz.prog 30 #[.string ⟨l.toArray⟩, .int .i64 a, .agg #[.int .i64 li, .int .i64 co]] w fun e w' => e = .returned (nextV (nextL l a li co)) ∧ Below w.heap.size w w' := by
 have hk0 := unsaidL_le (l.drop a)
 rw [List.length_drop] at hk0
 obtain ⟨k, hK⟩ : ∃ k, unsaidL (l.drop a) = k := ⟨_, rfl⟩
 rw [hK] at hk0
 have hak : a + k ≤ l.length := by omega
 by_cases h : a + k = l.length
 ·have := rnext_none l hl a ha li co hli hli2 hco hco2 w k hK hak h
  unfold nextL
  rw [hK, if_pos h]
  exact this
 ·have hk : a + k < l.length := by omega
  have hd1 : l.drop (a + k) = l[a + k] :: l.drop (a + k + 1) := List.drop_eq_getElem_cons hk
  by_cases h10 : l[a + k].toNat = 10
  ·have := rnext_end l hl a ha li co hli hli2 hco hco2 w k hK hak hk (by simp; omega)
   have hr : readL (l.drop (a + k)) = (3, 0, [], 1, true) := by rw [hd1]; unfold readL; dsimp only; rw [if_pos h10]
   unfold nextL
   rw [hK, if_neg h, hr]
   dsimp only
   rw [if_pos rfl, if_pos rfl]
   exact this
  ·have h10z : ((l[a + k].toNat : Int) == 10) = false := by simp; omega
   cases hL : letterB l[a + k] with
   | true =>
    refine rnext_word l hl a ha li co hli hli2 hco hco2 w k hK hak hk h10z hL ?_
    rw [hd1]; unfold readL; dsimp only; rw [if_neg h10, if_pos hL]
   | false =>
    by_cases h45 : l[a + k].toNat = 45
    ·have h45z : ((l[a + k].toNat : Int) == 45) = true := by simp; omega
     by_cases hs : spanL digitB (l.drop (a + k + 1)) = 0
     ·refine rnext_zero_m l hl a ha li co hli hli2 hco hco2 w k hK hak hk h10z hL h45z hs ?_
      rw [hd1]; unfold readL; dsimp only; rw [if_neg h10, if_neg (by simp [hL]), if_pos h45, if_pos hs]
     ·refine rnext_num_m l hl a ha li co hli hli2 hco hco2 w k hK hak hk h10z hL h45z (Or.inr h45) (Or.inl hs) ?_
      rw [hd1]; unfold readL; dsimp only; rw [if_neg h10, if_neg (by simp [hL]), if_pos h45, if_neg hs]
    ·have h45z : ((l[a + k].toNat : Int) == 45) = false := by simp; omega
     cases hD : digitB l[a + k] with
     | true =>
      refine rnext_num_d l hl a ha li co hli hli2 hco hco2 w k hK hak hk h10z hL h45z (Or.inl hD) (Or.inr hD) ?_
      rw [hd1]; unfold readL; dsimp only; rw [if_neg h10, if_neg (by simp [hL]), if_neg h45, if_pos hD]
     | false =>
      refine rnext_zero_d l hl a ha li co hli hli2 hco hco2 w k hK hak hk h10z hL h45z (by rw [hd1, spanL_cons, if_neg (by simp [hD])]) ?_
      rw [hd1]; unfold readL; dsimp only; rw [if_neg h10, if_neg (by simp [hL]), if_neg h45, if_neg (by simp [hD])]
end Go.Proofs.YtgpkdjhllekihaaGreatDoor.Tok
