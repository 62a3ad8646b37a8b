/- token.Line by its contract; slices.IndexFunc, slices.Clone at tokens. -/
import Derived.Test.YtgpkdjhllekihaaGreatDoorTAll
import Derived.Laws.OwnMore
import Derived.Shelf.SlicesE.Clone
import Derived.Shelf.SlicesQ.Load
namespace Go.Proofs.YtgpkdjhllekihaaGreatDoor.Tok
set_option linter.unusedVariables false
set_option maxRecDepth 100000
open Go.RowKit Go.Shelf
attribute [local go_sem] bget bdrop btake

/-- From the place 'off' of block 'b' on there lie these tokens. -/
def Toks (w : World) (b off : Nat) (ts : List Tok) : Prop := b < w.heap.size ∧ ∀ j u, (ts.flatMap tokC)[j]? = some u → w.cell? ⟨b, off + j, none⟩ = some u
theorem Toks.next {w w' : World} {b off : Nat} {ts : List Tok} (h : Toks w b off ts) (hb : Below w.heap.size w w') : Toks w' b off ts :=
 ⟨Nat.lt_of_lt_of_le h.1 hb.size, fun j u hj => by rw [hb.cell (p := ⟨b, off + j, none⟩) h.1]; exact h.2 j u hj⟩
theorem flat_len (ts : List Tok) : (ts.flatMap tokC).length = ts.length * 5 := by
 induction ts with
 | nil => rfl
 | cons t r ih => rw [List.flatMap_cons, List.length_append, ih]; simp [tokC]; omega
theorem flat_at : ∀ (ts : List Tok) (k : Nat) (hk : k < ts.length) (i : Nat), i < 5 → (ts.flatMap tokC)[k * 5 + i]? = (tokC ts[k])[i]?
 | [], k, hk, _, _ => by simp at hk
 | t :: r, 0, _, i, hi => by
  rw [List.flatMap_cons, List.getElem?_append_left (by simp [tokC]; omega)]; simp
 | t :: r, k + 1, hk, i, hi => by
  rw [List.flatMap_cons, List.getElem?_append_right (by simp [tokC]; omega)]
  have e : (k + 1) * 5 + i - (tokC t).length = k * 5 + i := by simp [tokC]; omega
  rw [e, flat_at r k (by simpa using hk) i hi]; rfl
/-- The five cells of one token. -/
structure TokAt (w : World) (b o : Nat) (t : Tok) : Prop where
 c0 : w.cell? ⟨b, o, none⟩ = some (.int .i64 t.1)
 c1 : w.cell? ⟨b, o + 1, none⟩ = some (.int .i64 t.2.1)
 c2 : w.cell? ⟨b, o + 2, none⟩ = some (.int .i64 t.2.2.1)
 c3 : w.cell? ⟨b, o + 3, none⟩ = some (.int .i64 t.2.2.2.1)
 c4 : w.cell? ⟨b, o + 4, none⟩ = some (.string ⟨t.2.2.2.2.toArray⟩)
theorem Toks.at {w : World} {b off : Nat} {ts : List Tok} (h : Toks w b off ts) (k : Nat) (hk : k < ts.length) : TokAt w b (off + k * 5) ts[k] := by
 have f := flat_at ts k hk
 have g : ∀ i, i < 5 → ∀ v, (tokC ts[k])[i]? = some v → w.cell? ⟨b, off + k * 5 + i, none⟩ = some v := fun i hi v hv => by
  rw [Nat.add_assoc]; exact h.2 _ v (by rw [f i hi]; exact hv)
 exact ⟨g 0 (by omega) _ rfl, g 1 (by omega) _ rfl, g 2 (by omega) _ rfl, g 3 (by omega) _ rfl, g 4 (by omega) _ rfl⟩

def endB (t : Tok) : Bool := t.1 == 3
theorem endsLine_any (tk tn tl tc : Int) (tt : List UInt8) (w : World) : Calls Tryz.prog 67 #[tokV tk tn tl tc tt] w fun e w' => e = .returned (.bool (tk == 3)) ∧ Below w.heap.size w w' := by
 go_enter Tryz.func67, Tryz.ntmps67
 go_wp2
 go_ret
 exact ⟨rfl, (Below.refl _ w).alloc (Nat.le_refl _) _⟩

/-- How many tokens stand ahead of the first one that ends a line; all, if there is none. -/
def lineLen (ts : List Tok) : Nat := (ts.takeWhile fun t => !endB t).length
theorem lineLen_le (ts : List Tok) : lineLen ts ≤ ts.length := (List.takeWhile_sublist _).length_le
theorem lineLen_cons (t : Tok) (r : List Tok) : lineLen (t :: r) = if endB t then 0 else lineLen r + 1 := by
 unfold lineLen; rw [List.takeWhile_cons]; cases endB t <;> simp
theorem lineLen_hit : ∀ (ts : List Tok) (k : Nat) (hk : k < ts.length), (∀ j (hj : j < k), endB (ts[j]'(by omega)) = false) → endB ts[k] = true → lineLen ts = k
 | [], k, hk, _, _ => by simp at hk
 | c :: r, 0, hk, _, h => by rw [lineLen_cons, if_pos (by exact h)]
 | c :: r, k + 1, hk, ha, h => by
  rw [lineLen_cons, if_neg (by have := ha 0 (by omega); simpa using this), lineLen_hit r k (by simpa using hk) (fun j hj => ha (j + 1) (by omega)) (by simpa using h)]
theorem lineLen_all : ∀ (ts : List Tok), (∀ j (hj : j < ts.length), endB ts[j] = false) → lineLen ts = ts.length
 | [], _ => rfl
 | c :: r, ha => by
  rw [lineLen_cons, if_neg (by have := ha 0 (by simp); simpa using this), lineLen_all r (fun j hj => ha (j + 1) (by simpa using hj))]; simp

def idxOf (ts : List Tok) : Int := if lineLen ts < ts.length then (lineLen ts : Int) else -1
set_option maxHeartbeats 1000000 in
theorem indexFunc_any (ts : List Tok) (b off cap : Nat) (hlen : ts.length ≤ 1048576) (w : World) (hT : Toks w b off ts) :
  Calls Tryz.prog 66 #[.slice (some ⟨b, off, none⟩) ts.length cap, .func (.func 67) #[] #[]] w fun e w' => e = .returned (.int .i64 (idxOf ts)) ∧ Below w.heap.size w w' := by
 have eg : ∀ args w, (callFunc 67 args).run Tryz.prog w = .ok (.enter 67 args) w := fun _ _ => rfl
 have HT : Hid (Toks w b off ts) := hT
 clear hT
 go_enter Tryz.func66, Tryz.ntmps66
 go_wp2
 go_loopw [5, 8] (fun _ s wr => ∃ k : Nat, k ≤ ts.length ∧ s = .int .i64 k ∧ Below w.heap.size w wr ∧ Hid (∀ j (hj : j < ts.length), j < k → endB ts[j] = false)) (fun _ s _ => ts.length - (intOf s).toNat)
 case atStart => exact ⟨0, Nat.zero_le _, rfl, Below.refl _ w, by intro j _ hj; omega⟩
 case round =>
  obtain ⟨k, hk, rfl, hB, HA⟩ := hrel
  by_cases hlt : k < ts.length
  ·have hltz : (k : Int) < (ts.length : Int) := by omega
   have ta := (HT.out.next hB).at k hlt
   generalize hy : ts[k] = y at ta
   have HY : Hid (ts[k] = y) := hy
   clear hy
   obtain ⟨tk, tn, tl, tc, tt⟩ := y
   obtain ⟨c0, c1, c2, c3, c4⟩ := ta
   simp only at c0 c1 c2 c3 c4
   cases hq : (tk == 3) with
   | true =>
    have HQ : Hid ((tk == 3) = true) := hq
    clear hq
    go_wp2_with fail
    refine (endsLine_any tk tn tl tc tt _).mono ?_
    rintro e w1 ⟨rfl, hb⟩
    rw [HQ.out]
    go_wp2
    go_ret
    have hh : lineLen ts = k := lineLen_hit ts k hlt (fun j hj => HA.out j (by omega) hj) (by rw [HY.out]; exact HQ.out)
    exact ⟨ret_int (by unfold idxOf; rw [hh, if_pos hlt]), hB.trans (hb.mono hB.size)⟩
   | false =>
    have HQ : Hid ((tk == 3) = false) := hq
    clear hq
    go_wp2_with fail
    refine (endsLine_any tk tn tl tc tt _).mono ?_
    rintro e w1 ⟨rfl, hb⟩
    rw [HQ.out]
    go_wp2
    go_roundw
    case rel =>
     refine ⟨k + 1, by omega, by go_num, hB.trans (hb.mono hB.size), ?_⟩
     show ∀ j (hj : j < ts.length), j < k + 1 → endB ts[j] = false
     intro j hj h
     rcases Nat.lt_or_ge j k with h' | h'
     ·exact HA.out j hj h'
     ·have e : j = k := by omega
      subst e; rw [HY.out]; exact HQ.out
    case measure => simp [intOf]; omega
  ·have hltz : ¬ (k : Int) < (ts.length : Int) := by omega
   go_wp2
   go_ret
   have hh : lineLen ts = ts.length := lineLen_all ts (fun j hj => HA.out j hj (by omega))
   exact ⟨ret_int (by unfold idxOf; rw [hh, if_neg (by omega)]), hB⟩

set_option maxHeartbeats 1000000 in
set_option maxRecDepth 100000 in
theorem clone_any (ts : List Tok) (b off cap : Nat) (hlen : ts.length ≤ 1048576) (w : World) (hT : Toks w b off ts) :
  Calls Tryz.prog 68 #[.slice (some ⟨b, off, none⟩) ts.length cap] w fun e w' => ∃ v, e = .returned v ∧ Row w' w.heap.size v ts ∧ Below w.heap.size w w' := by
 have q22 : ∀ (w : World) (a : Option Addr) (n c n' c' : Nat), (binOp .eql 49 (.slice a n c) (.slice none n' c')).run Tryz.prog w = .ok (.bool a.isNone) w := fun w a n c n' c' => Lib.run_eql_slice_nil w _ _ a n c n' c' Tryz.underlying49
 obtain ⟨i0, hi, hz0, hz1, hz2⟩ := info27
 have HT : Hid (Toks w b off ts) := hT
 clear hT
 go_enter Tryz.func68, Tryz.ntmps68
 go_wp2_with (at_builtin; refine wpList_append_own _ rfl _ _ 49 rfl w.heap.size 60 i0 (tokV 0 0 0 0 []) 5 48 Tryz.underlying49 hi hz0 hz1 hz2 rfl (by omega) _ _ _ rfl (World.ownsRow_made w #[] 0 (Nat.le_refl _) (Nat.zero_le _) (by simp)) ⟨b, off, none⟩ ts.length cap (ts.flatMap tokC) rfl ?qc1 ?qc2 ?qc3 ?qc4 ?qc5 ?qc6 ?_)
 case qc1 => exact flat_len ts
 case qc2 =>
  intro j u hj
  rw [Addr.add_lit]
  exact Lib.cell?_alloc_some _ (HT.out.2 j u hj)
 case qc3 =>
  intro u hu
  obtain ⟨t, _, hu⟩ := List.mem_flatMap.1 hu
  simp [tokC] at hu; rcases hu with rfl | rfl | rfl | rfl | rfl <;> rfl
 case qc4 => unfold maxLen; omega
 case qc5 => omega
 case qc6 => simp
 intro v' w1 hown hgrow hnil
 go_wp2
 go_ret
 refine ⟨v', rfl, by unfold Row; simpa using hown, ?_⟩
 exact ((Below.refl _ w).alloc (Nat.le_refl _) _).grown hgrow (by simp) (by intro k hk; simp [Value.ownBlock] at hk; omega)


theorem Toks.drop {w : World} {b off : Nat} {ts : List Tok} (h : Toks w b off ts) (a : Nat) : Toks w b (off + a * 5) (ts.drop a) := by
 refine ⟨h.1, fun j u hj => ?_⟩
 rw [Nat.add_assoc]
 refine h.2 _ u ?_
 have e : (ts.flatMap tokC).drop (a * 5) = (ts.drop a).flatMap tokC := by
  rcases Nat.lt_or_ge a ts.length with hlt | hge
  ·conv => lhs; rw [← List.take_append_drop a ts, List.flatMap_append]
   rw [List.drop_append_of_le_length (by rw [flat_len]; simp; omega), List.drop_of_length_le (by rw [flat_len]; simp; omega)]
   simp
  ·rw [List.drop_of_length_le hge, List.drop_of_length_le (by rw [flat_len]; omega)]; rfl
 rw [← e, List.getElem?_drop] at hj
 exact hj
theorem Toks.take {w : World} {b off : Nat} {ts : List Tok} (h : Toks w b off ts) (n : Nat) : Toks w b off (ts.take n) := by
 refine ⟨h.1, fun j u hj => h.2 j u ?_⟩
 have e : ts.flatMap tokC = (ts.take n).flatMap tokC ++ (ts.drop n).flatMap tokC := by rw [← List.flatMap_append, List.take_append_drop]
 rw [e, List.getElem?_append_left]
 ·exact hj
 ·exact (List.getElem?_eq_some_iff.1 hj).1

theorem indexFunc_n (ts : List Tok) (n : Nat) (hn : ts.length = n) (b off cap : Nat) (hlen : ts.length ≤ 1048576) (w : World) (hT : Toks w b off ts) :
  Calls Tryz.prog 66 #[.slice (some ⟨b, off, none⟩) n cap, .func (.func 67) #[] #[]] w fun e w' => e = .returned (.int .i64 (idxOf ts)) ∧ Below w.heap.size w w' := by
 subst hn; exact indexFunc_any ts b off cap hlen w hT
theorem clone_n (ts : List Tok) (n : Nat) (hn : ts.length = n) (b off cap : Nat) (hlen : ts.length ≤ 1048576) (w : World) (hT : Toks w b off ts) :
  Calls Tryz.prog 68 #[.slice (some ⟨b, off, none⟩) n cap] w fun e w' => ∃ v, e = .returned v ∧ Row w' w.heap.size v ts ∧ Below w.heap.size w w' := by
 subst hn; exact clone_any ts b off cap hlen w hT

set_option maxHeartbeats 400000 in
theorem line_out (ao : Option Addr) (n cap : Nat) (hn : n ≤ maxLen) (at' : Int) (h : at' < 0 ∨ (n : Int) ≤ at') (w : World) :
  Calls Tryz.prog 41 #[.slice ao n cap, .int .i64 at'] w fun e w' => e = .returned (.tuple #[.slice none 0 0, .int .i64 at']) ∧ w' = w := by
 unfold maxLen at hn
 by_cases h0 : at' < 0
 ·clear h
  go_enter Tryz.func41, Tryz.ntmps41
  go_wp2
  go_ret2
  exact ⟨rfl, rfl⟩
 ·have h1 : (n : Int) ≤ at' := by omega
  clear h
  go_enter Tryz.func41, Tryz.ntmps41
  go_wp2
  go_ret2
  exact ⟨rfl, rfl⟩

set_option maxHeartbeats 1000000 in
theorem line_mid (ts : List Tok) (b off cap : Nat) (hlen : ts.length ≤ 1048576) (hcap : ts.length ≤ cap) (hcm : cap ≤ maxLen) (a : Nat) (ha : a < ts.length) (k : Nat) (HK : Hid (lineLen (ts.drop a) = k)) (hk : a + k < ts.length) (w : World) (hT : Toks w b off ts) :
  Calls Tryz.prog 41 #[.slice (some ⟨b, off, none⟩) ts.length cap, .int .i64 a] w fun e w' => ∃ v, e = .returned (.tuple #[v, .int .i64 (a + k + 1)]) ∧ Row w' w.heap.size v ((ts.drop a).take k) ∧ Below w.heap.size w w' := by
 have h0 : ¬ ((a : Int) < 0) := by omega
 have h1 : ¬ ((ts.length : Int) ≤ a) := by omega
 unfold maxLen at hcm
 have HT : Hid (Toks w b off ts) := hT
 clear hT
 have hdl : (ts.drop a).length = ts.length - a := List.length_drop
 have HD : Hid ((ts.drop a).length = ts.length - a) := hdl
 clear hdl
 have HI : Hid (idxOf (ts.drop a) = k) := by
  show idxOf (ts.drop a) = k
  unfold idxOf; rw [HK.out, HD.out, if_pos (by omega)]
 go_enter Tryz.func41, Tryz.ntmps41
 go_wp2_with fail
 refine (indexFunc_n (ts.drop a) _ HD.out _ _ _ (by rw [HD.out]; omega) _ (HT.out.drop a)).mono ?_
 rintro e w1 ⟨rfl, hb⟩
 rw [HI.out]
 have T1 := HT.out.next hb
 have HT1 : Hid (Toks w1 b off ts) := T1
 clear T1
 go_wp2_with fail
 refine (clone_n ((ts.drop a).take k) _ (by rw [List.length_take, HD.out]; omega) _ _ _ (by rw [List.length_take, HD.out]; omega) _ ((HT1.out.drop a).take k)).mono ?_
 rintro e w2 ⟨v, rfl, hr, hb2⟩
 go_wp2
 go_ret2
 exact ⟨v, rfl, Row.le hr hb.size, hb.trans (hb2.mono hb.size)⟩

set_option maxHeartbeats 1000000 in
theorem line_last (ts : List Tok) (b off cap : Nat) (hlen : ts.length ≤ 1048576) (hcap : ts.length ≤ cap) (hcm : cap ≤ maxLen) (a : Nat) (ha : a < ts.length) (HK : Hid (lineLen (ts.drop a) = ts.length - a)) (w : World) (hT : Toks w b off ts) :
  Calls Tryz.prog 41 #[.slice (some ⟨b, off, none⟩) ts.length cap, .int .i64 a] w fun e w' => ∃ v, e = .returned (.tuple #[v, .int .i64 ts.length]) ∧ Row w' w.heap.size v (ts.drop a) ∧ Below w.heap.size w w' := by
 have h0 : ¬ ((a : Int) < 0) := by omega
 have h1 : ¬ ((ts.length : Int) ≤ a) := by omega
 unfold maxLen at hcm
 have HT : Hid (Toks w b off ts) := hT
 clear hT
 have hdl : (ts.drop a).length = ts.length - a := List.length_drop
 have HD : Hid ((ts.drop a).length = ts.length - a) := hdl
 clear hdl
 have HI : Hid (idxOf (ts.drop a) = -1) := by
  show idxOf (ts.drop a) = -1
  unfold idxOf; rw [HK.out, HD.out, if_neg (by omega)]
 go_enter Tryz.func41, Tryz.ntmps41
 go_wp2_with fail
 refine (indexFunc_n (ts.drop a) _ HD.out _ _ _ (by rw [HD.out]; omega) _ (HT.out.drop a)).mono ?_
 rintro e w1 ⟨rfl, hb⟩
 rw [HI.out]
 have T1 := HT.out.next hb
 have HT1 : Hid (Toks w1 b off ts) := T1
 clear T1
 go_wp2_with fail
 refine (clone_n (ts.drop a) _ HD.out _ _ _ (by rw [HD.out]; omega) _ (HT1.out.drop a)).mono ?_
 rintro e w2 ⟨v, rfl, hr, hb2⟩
 go_wp2
 go_ret2
 exact ⟨v, rfl, Row.le hr hb.size, hb.trans (hb2.mono hb.size)⟩

/-- The tokens of the line from a place on, and where the next line begins. -/
def lineTs (ts : List Tok) (a : Nat) : List Tok := (ts.drop a).take (lineLen (ts.drop a))
def lineNext (ts : List Tok) (a : Nat) : Int := if a + lineLen (ts.drop a) < ts.length then (a : Int) + lineLen (ts.drop a) + 1 else ts.length
theorem line_in (ts : List Tok) (b off cap : Nat) (hlen : ts.length ≤ 1048576) (hcap : ts.length ≤ cap) (hcm : cap ≤ maxLen) (a : Nat) (ha : a < ts.length) (w : World) (hT : Toks w b off ts) :
  Calls Tryz.prog 41 #[.slice (some ⟨b, off, none⟩) ts.length cap, .int .i64 a] w fun e w' => ∃ v, e = .returned (.tuple #[v, .int .i64 (lineNext ts a)]) ∧ Row w' w.heap.size v (lineTs ts a) ∧ Below w.heap.size w w' := by
 have hle := lineLen_le (ts.drop a)
 rw [List.length_drop] at hle
 unfold lineTs lineNext
 by_cases h : a + lineLen (ts.drop a) < ts.length
 ·rw [if_pos h]
  exact line_mid ts b off cap hlen hcap hcm a ha _ rfl h w hT
 ·rw [if_neg h, List.take_of_length_le (by rw [List.length_drop]; omega)]
  exact line_last ts b off cap hlen hcap hcm a ha (show lineLen (ts.drop a) = ts.length - a by omega) w hT
/-- A row that a call made is tokens from its block on, or it is nil. -/
theorem Row.toks {w : World} {base : Nat} {v : Value} {ts : List Tok} (h : Row w base v ts) : (v = .slice none 0 0 ∧ ts = []) ∨ ∃ g cap, v = .slice (some ⟨g, 0, none⟩) ts.length cap ∧ base ≤ g ∧ g < w.heap.size ∧ ts.length ≤ cap ∧ cap ≤ maxLen ∧ Toks w g 0 ts := by
 have h2 := h
 rcases h.2 with ⟨hv, hn⟩ | ⟨g, cap, cur, hv, hb, hc, hn, hm, _, _⟩
 ·exact Or.inl ⟨hv, List.length_eq_zero_iff.1 hn⟩
 ·subst hv
  have hlt : g < w.heap.size := (Array.getElem?_eq_some_iff.1 hc).1
  refine Or.inr ⟨g, cap, rfl, hb, hlt, hn, hm, hlt, fun j u hj => ?_⟩
  have := World.ownsRow.cells h2 rfl j u hj
  rw [Addr.add_lit] at this
  exact this
end Go.Proofs.YtgpkdjhllekihaaGreatDoor.Tok
