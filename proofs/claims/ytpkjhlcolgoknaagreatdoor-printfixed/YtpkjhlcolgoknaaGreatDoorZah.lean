/- A text read line by line: plain facts; A venue that was read may be, once it is sorted. -/
import Derived.Test.YtpkjhlcolgoknaaGreatDoorZag
import Derived.Test.YtpkjhlcolgoknaaGreatDoorTLinesP
import Derived.Test.YtpkjhlcolgoknaaGreatDoorVRAgree
namespace Go.Proofs.YtpkjhlcolgoknaaGreatDoor.Par
set_option linter.unusedVariables false
set_option maxRecDepth 100000
open Go.Proofs.YtpkjhlcolgoknaaGreatDoor.Ven (Seat Pole Ven)

theorem span_nl (p : UInt8 → Bool) (hp : p 10 = false) (y : List UInt8) : ∀ v : List UInt8, Tok.spanL p (v ++ 10 :: y) = Tok.spanL p v
  | [] => by rw [List.nil_append, Tok.spanL_cons, hp]; rfl
  | c :: v => by rw [List.cons_append, Tok.spanL_cons, Tok.spanL_cons, span_nl p hp y v]
theorem unsaid_nl (v y : List UInt8) : Tok.unsaidL (v ++ 10 :: y) = Tok.unsaidL v := by
  have hs := Tok.spanL_le Tok.blankB v
  unfold Tok.unsaidL
  rw [span_nl _ (by decide), List.drop_append_of_le_length hs]
  generalize v.drop (Tok.spanL Tok.blankB v) = t
  cases t with
  | nil => rfl
  | cons c t =>
    have e := span_nl Tok.lineB (by decide) y (c :: t)
    rw [List.cons_append] at e ⊢
    rw [e]
    rfl
theorem unsaid_le_nl (v : List UInt8) : Tok.unsaidL v ≤ v.length := Tok.unsaidL_le v
theorem badW_nl (t y : List UInt8) : Tok.badW (t ++ 10 :: y) = Tok.badW t := by cases t <;> rfl
theorem badN_nl (t y : List UInt8) : Tok.badN (t ++ 10 :: y) = Tok.badN t := by cases t <;> rfl
theorem word_nl (v y : List UInt8) : Tok.wordL (v ++ 10 :: y) = Tok.wordL v := by
  have hs := Tok.spanL_le Tok.letterB v
  unfold Tok.wordL
  rw [span_nl _ (by decide), List.drop_append_of_le_length hs, badW_nl, List.take_append_of_le_length hs]
theorem num_nl (c : UInt8) (v y : List UInt8) : Tok.numL (c :: v ++ 10 :: y) = Tok.numL (c :: v) := by
  have hs := Tok.spanL_le Tok.digitB v
  have hl : 1 + Tok.spanL Tok.digitB v ≤ (c :: v).length := by simp; omega
  unfold Tok.numL
  rw [show (c :: v ++ 10 :: y).tail = v ++ 10 :: y from rfl, show (c :: v).tail = v from rfl, span_nl _ (by decide), List.drop_append_of_le_length hl, badN_nl, List.take_append_of_le_length hl]
theorem read_nl (c : UInt8) (v y : List UInt8) : Tok.readL (c :: v ++ 10 :: y) = Tok.readL (c :: v) := by
  have hw := word_nl (c :: v) y
  have hn := num_nl c v y
  rw [List.cons_append] at hw hn ⊢
  unfold Tok.readL
  dsimp only
  rw [hw, hn, span_nl _ (by decide)]
/-- A text whose first part ends with its line. -/
theorem all_nl : ∀ (n : Nat) (v y : List UInt8) (li co : Int), v.length ≤ n →
    (∃ ts li', Tok.allP (v ++ [10]) li co = (ts, li', 1, 0) ∧ Tok.allP (v ++ 10 :: y) li co = (ts ++ (Tok.allP y li' 1).1, (Tok.allP y li' 1).2)) ∨
    ((Tok.allP (v ++ [10]) li co).2.2.2 = 2 ∧ Tok.allP (v ++ 10 :: y) li co = Tok.allP (v ++ [10]) li co) := by
  intro n
  induction n with
  | zero =>
    intro v y li co hv
    have hv0 : v = [] := List.length_eq_zero_iff.1 (by omega)
    subst hv0
    left
    have u0 : ∀ z : List UInt8, Tok.unsaidL (10 :: z) = 0 := fun z => (unsaid_nl [] z).trans rfl
    have r0 : ∀ z : List UInt8, Tok.readL (10 :: z) = (3, 0, [], 1, true) := fun z => rfl
    refine ⟨[(3, 0, li, co, [])], li + 1, ?_, ?_⟩
    · rw [List.nil_append, Tok.allP_step [10] li co 3 0 [] 1 (by rw [u0]; simp) (by rw [u0]; exact r0 [])]
      rw [u0]
      simp [Tok.allP_none [] (li + 1) 1 rfl]
    · rw [List.nil_append, Tok.allP_step (10 :: y) li co 3 0 [] 1 (by rw [u0]; simp) (by rw [u0]; exact r0 y)]
      rw [u0]
      simp
  | succ n ih =>
    intro v y li co hv
    have hk := unsaid_le_nl v
    have hu : ∀ z, Tok.unsaidL (v ++ 10 :: z) = Tok.unsaidL v := unsaid_nl v
    have hlt : ∀ z : List UInt8, Tok.unsaidL (v ++ 10 :: z) < (v ++ 10 :: z).length := fun z => by rw [hu]; simp; omega
    have hd : ∀ z : List UInt8, (v ++ 10 :: z).drop (Tok.unsaidL (v ++ 10 :: z)) = v.drop (Tok.unsaidL v) ++ 10 :: z := fun z => by rw [hu, List.drop_append_of_le_length hk]
    have hdl : (v.drop (Tok.unsaidL v)).length = v.length - Tok.unsaidL v := List.length_drop
    cases ht : v.drop (Tok.unsaidL v) with
    | nil =>
      rw [ht] at hd hdl
      have hkl : Tok.unsaidL v = v.length := by simp at hdl; omega
      left
      refine ⟨[(3, 0, li, co + (Tok.unsaidL v : Nat), [])], li + 1, ?_, ?_⟩
      · rw [Tok.allP_step (v ++ [10]) li co 3 0 [] 1 (hlt []) (by rw [hd []]; rfl), hu []]
        have : (v ++ [10]).drop (Tok.unsaidL v + 1) = [] := by rw [List.drop_of_length_le]; simp; omega
        rw [this]
        simp [Tok.allP_none [] (li + 1) 1 rfl]
      · rw [Tok.allP_step (v ++ 10 :: y) li co 3 0 [] 1 (hlt y) (by rw [hd y]; rfl), hu y]
        have : (v ++ 10 :: y).drop (Tok.unsaidL v + 1) = y := by rw [hkl, ← List.drop_drop, List.drop_left]; rfl
        rw [this]
        simp
    | cons c t =>
      rw [ht] at hd hdl
      have hrd : ∀ z, Tok.readL ((v ++ 10 :: z).drop (Tok.unsaidL (v ++ 10 :: z))) = Tok.readL (c :: t) := fun z => by rw [hd z]; exact read_nl c t z
      have hle := Tok.readL_le (c :: t)
      have hok := Tok.readL_ok (c :: t)
      rcases hg : Tok.readL (c :: t) with ⟨gk, gn, gt, gs, ok⟩
      rw [hg] at hle hok
      cases ok with
      | false =>
        right
        have e1 := Tok.allP_text (v ++ [10]) li co gk gn gt gs (hlt []) ((hrd []).trans hg)
        have e2 := Tok.allP_text (v ++ 10 :: y) li co gk gn gt gs (hlt y) ((hrd y).trans hg)
        rw [e1, e2, hu, hu]
        exact ⟨rfl, rfl⟩
      | true =>
        obtain ⟨h1, _⟩ := hok rfl
        simp only at h1 hle
        have hkg : Tok.unsaidL v + gs ≤ v.length := by simp at hdl hle; omega
        have e1 := Tok.allP_step (v ++ [10]) li co gk gn gt gs (hlt []) ((hrd []).trans hg)
        have e2 := Tok.allP_step (v ++ 10 :: y) li co gk gn gt gs (hlt y) ((hrd y).trans hg)
        rw [hu, List.drop_append_of_le_length hkg] at e1
        rw [hu, List.drop_append_of_le_length hkg] at e2
        rcases ih (v.drop (Tok.unsaidL v + gs)) y (if gk = 3 then li + 1 else li) (if gk = 3 then 1 else co + (Tok.unsaidL v : Nat) + gs) (by rw [List.length_drop]; omega) with ⟨ts, li', i1, i2⟩ | ⟨i1, i2⟩
        · left
          refine ⟨(gk, gn, li, co + (Tok.unsaidL v : Nat), gt) :: ts, li', ?_, ?_⟩
          · rw [e1, i1]
          · rw [e2, i2]; rfl
        · right
          rw [e1, e2, i2]
          exact ⟨i1, rfl⟩
/-- The lines of tokens, without places. -/
def linesD (e : Int × Int) : Nat → List T → St → Except (Int × Int) St
  | 0, _, s => .ok s
  | f + 1, r, s => if r = [] then .ok s else
      match lineL (r.take (Tok.lineLen r)) (if Tok.lineLen r < r.length then spotT (r[Tok.lineLen r]!) else e) s with
      | .error p => .error p
      | .ok s' => linesD e f (r.drop (Tok.lineLen r + 1)) s'
theorem linesD_of (ts : List T) (e : Int × Int) : ∀ (f a : Nat) (s : St), linesL ts e f a s = linesD e f (ts.drop a) s
  | 0, a, s => rfl
  | f + 1, a, s => by
    rw [linesL_succ]
    unfold linesD
    by_cases ha : a < ts.length
    · have hne : ¬ ts.drop a = [] := fun hc => by have := congrArg List.length hc; rw [List.length_drop] at this; simp at this; omega
      have hdl : (ts.drop a).length = ts.length - a := List.length_drop
      have hle := Tok.lineLen_le (ts.drop a)
      rw [if_pos ha, if_neg hne]
      have he : endL ts a e = if Tok.lineLen (ts.drop a) < (ts.drop a).length then spotT ((ts.drop a)[Tok.lineLen (ts.drop a)]!) else e := by
        unfold endL
        by_cases h : a + Tok.lineLen (ts.drop a) < ts.length
        · rw [if_pos h, if_pos (by omega), getElem!_pos ts _ h, getElem!_pos (ts.drop a) _ (by omega), List.getElem_drop]
        · rw [if_neg h, if_neg (by omega)]
      rw [he]
      have hn : ts.drop (Tok.lineNext ts a).toNat = (ts.drop a).drop (Tok.lineLen (ts.drop a) + 1) := by
        unfold Tok.lineNext
        rw [List.drop_drop]
        by_cases h : a + Tok.lineLen (ts.drop a) < ts.length
        · rw [if_pos h]; congr 1
        · rw [if_neg h, List.drop_of_length_le (by omega), List.drop_of_length_le (by omega)]
      unfold Tok.lineTs
      cases lineL ((ts.drop a).take (Tok.lineLen (ts.drop a))) (if Tok.lineLen (ts.drop a) < (ts.drop a).length then spotT ((ts.drop a)[Tok.lineLen (ts.drop a)]!) else e) s with
      | error p => rfl
      | ok s' => simp only []; rw [linesD_of ts e f _ s', hn]
    · rw [if_neg ha, if_pos (List.drop_of_length_le (by omega))]
theorem linesD_fuel (e : Int × Int) : ∀ (n : Nat) (r : List T) (s : St) (f f' : Nat), r.length ≤ n → r.length < f → r.length < f' → linesD e f r s = linesD e f' r s := by
  intro n
  induction n with
  | zero =>
    intro r s f f' hr hf hf'
    have : r = [] := List.length_eq_zero_iff.1 (by omega)
    subst this
    cases f with
    | zero => omega
    | succ f => cases f' with
      | zero => omega
      | succ f' => rfl
  | succ n ih =>
    intro r s f f' hr hf hf'
    cases f with
    | zero => omega
    | succ f =>
      cases f' with
      | zero => omega
      | succ f' =>
        unfold linesD
        by_cases hne : r = []
        · rw [if_pos hne, if_pos hne]
        · have hlen : 0 < r.length := Nat.pos_of_ne_zero fun hc => hne (List.length_eq_zero_iff.1 hc)
          rw [if_neg hne, if_neg hne]
          cases lineL (r.take (Tok.lineLen r)) (if Tok.lineLen r < r.length then spotT (r[Tok.lineLen r]!) else e) s with
          | error p => rfl
          | ok s' =>
            simp only []
            exact ih _ s' f f' (by rw [List.length_drop]; omega) (by rw [List.length_drop]; omega) (by rw [List.length_drop]; omega)
def linesE (e : Int × Int) (r : List T) (s : St) : Except (Int × Int) St := linesD e (r.length + 1) r s
theorem linesE_nil (e : Int × Int) (s : St) : linesE e [] s = .ok s := rfl
theorem lineLen_line : ∀ (u : List T) (t : T) (r : List T), (∀ x ∈ u, Tok.endB x = false) → Tok.endB t = true → Tok.lineLen (u ++ t :: r) = u.length
  | [], t, r, _, ht => by rw [List.nil_append, Tok.lineLen_cons, ht]; rfl
  | x :: u, t, r, hu, ht => by rw [List.cons_append, Tok.lineLen_cons, hu x List.mem_cons_self, lineLen_line u t r (fun y hy => hu y (List.mem_cons_of_mem _ hy)) ht]; rfl
theorem linesE_line (e : Int × Int) (u : List T) (t : T) (r : List T) (s : St) (hu : ∀ x ∈ u, Tok.endB x = false) (ht : Tok.endB t = true) :
    linesE e (u ++ t :: r) s = match lineL u (spotT t) s with | .error p => .error p | .ok s' => linesE e r s' := by
  have hl := lineLen_line u t r hu ht
  unfold linesE
  rw [linesD, if_neg (by simp), hl, List.take_left]
  have h1 : u.length < (u ++ t :: r).length := by simp
  rw [if_pos h1, getElem!_pos (u ++ t :: r) u.length h1]
  have h2 : (u ++ t :: r)[u.length]'h1 = t := by simp
  rw [h2]
  cases lineL u (spotT t) s with
  | error p => rfl
  | ok s' =>
    simp only []
    have h3 : (u ++ t :: r).drop (u.length + 1) = r := by rw [← List.drop_drop, List.drop_left]; rfl
    rw [h3]
    exact linesD_fuel e r.length r s' _ _ (Nat.le_refl _) (by simp; omega) (by omega)
/-- A text from its line on: how its tokens end, and the state behind its lines. -/
def scan (l : List UInt8) (li : Int) (s : St) : (Int × Int × Int) × Except (Int × Int) St := ((Tok.allP l li 1).2, linesE ((Tok.allP l li 1).2.1, (Tok.allP l li 1).2.2.1) (Tok.allP l li 1).1 s)
theorem scan_nil (li : Int) (s : St) : scan [] li s = ((li, 1, 0), .ok s) := by
  unfold scan
  rw [Tok.allP_none [] li 1 rfl]
  simp [linesE_nil]
theorem scan_line (v y : List UInt8) (li li' : Int) (u : List T) (t : T) (s : St) (hA : Tok.allP (v ++ [10]) li 1 = (u ++ [t], li', 1, 0)) (hu : ∀ x ∈ u, Tok.endB x = false) (ht : Tok.endB t = true) :
    scan (v ++ 10 :: y) li s = match lineL u (spotT t) s with | .error p => ((Tok.allP y li' 1).2, .error p) | .ok s' => scan y li' s' := by
  rcases all_nl v.length v y li 1 (Nat.le_refl _) with ⟨ts, l2, h1, h2⟩ | ⟨h1, _⟩
  · rw [hA] at h1
    simp only [Prod.mk.injEq, and_true] at h1
    obtain ⟨rfl, rfl⟩ := h1
    unfold scan
    rw [h2, List.append_assoc, List.singleton_append, linesE_line _ u t _ s hu ht]
    cases lineL u (spotT t) s <;> rfl
  · rw [hA] at h1; cases h1
theorem readL_scan {l : List UInt8} (h : ¬ 1048576 < l.length) : readL l = if (scan l 1 St.zero).1.2.2 = 0 then (match (scan l 1 St.zero).2 with | .error p => .error (2, p) | .ok s => (match wholeL s ((scan l 1 St.zero).1.1, (scan l 1 St.zero).1.2.1) with | .error p => .error (2, p) | .ok V => .ok V)) else .error ((scan l 1 St.zero).1.2.2, (scan l 1 St.zero).1.1, (scan l 1 St.zero).1.2.1) := by
  unfold readL scan
  rw [if_neg h, Tok.allOf_P]
  rcases Tok.allP l 1 1 with ⟨ts, li, co, code⟩
  simp only []
  unfold linesE
  rw [linesD_of ts (li, co) (ts.length + 1) 0 St.zero, List.drop_zero]
  by_cases hc : code = 0
  · rw [if_pos hc, if_pos hc]
    cases linesD (li, co) (ts.length + 1) ts St.zero with
    | error p => rfl
    | ok s => simp only []; cases wholeL s (li, co) <;> rfl
  · rw [if_neg hc, if_neg hc]
end Go.Proofs.YtpkjhlcolgoknaaGreatDoor.Par

namespace Go.Proofs.YtpkjhlcolgoknaaGreatDoor.Par
set_option linter.unusedVariables false
set_option maxRecDepth 100000
open Go.Proofs.YtpkjhlcolgoknaaGreatDoor.Ven
open Go.Proofs.YtpkjhlcolgoknaaGreatDoor.Prs (atI wordK kindL letsK)

structure GoodSt (s : St) : Prop where
  seat : ∀ x ∈ s.seats, seatB x = true
  apart : s.seats.Pairwise keyNe
  ls : s.seats.length ≤ 4096
  gap : s.gap = 0 ∨ lengthB s.gap = true
  radius : distB s.radius = true
  pole : ∀ p ∈ s.poles, poleB p = true
  lp : s.poles.length ≤ 200
  lk : s.kills.length ≤ 200
theorem GoodSt.zero : GoodSt St.zero := ⟨by simp [St.zero], by simp [St.zero], by simp [St.zero], .inl rfl, by decide, by simp [St.zero], by simp [St.zero], by simp [St.zero]⟩
theorem atI_neg {S : List Seat} {r x : Int} (h : atI S r x < 0) : ∀ a ∈ S, ¬ (a.row = r ∧ a.x = x) := by
  intro a ha hc
  unfold atI at h
  cases hf : S.findIdx? (fun s => s.row == r && s.x == x) with
  | some i => rw [hf] at h; simp at h; omega
  | none =>
    rw [List.findIdx?_eq_none_iff] at hf
    have := hf a ha
    simp [hc.1, hc.2] at this
theorem GoodSt.add {s s' : St} {k : Nat} {t : T} {rest : List T} (h : GoodSt s) (h1 : 1 ≤ k) (h7 : k ≤ 7) (hn : rest.length = numK k) (hr : rangeL k 0 rest = none) (ha : addL k t rest s = some s') : GoodSt s' := by
  have hl : ∀ j, j < rest.length → letsK k j (nOf rest j) = true := fun j hj => by
    have := range_each k rest 0 hr j hj
    rw [Nat.zero_add] at this
    unfold nOf; rw [getElem!_pos rest j hj]; exact this
  have hk : k = 1 ∨ k = 2 ∨ k = 3 ∨ k = 4 ∨ k = 5 ∨ k = 6 ∨ k = 7 := by omega
  have seatCase : ∀ kd : Int, kindB kd = true → rest.length = 3 → rowB (nOf rest 0) = true → coordB (nOf rest 1) = true → coordB (nOf rest 2) = true → atI s.seats (nOf rest 0) (nOf rest 1) < 0 ∧ s.seats.length < 4096 → GoodSt { s with seats := s.seats ++ [⟨nOf rest 0, nOf rest 1, nOf rest 2, kd⟩] } := by
    intro kd hkd h3 hb0 hb1 hb2 hc
    refine { h with seat := fun x hx => ?_, apart := ?_, ls := by simp; omega }
    · rcases List.mem_append.1 hx with hx | hx
      · exact h.seat x hx
      · rw [List.mem_singleton] at hx; subst hx
        unfold seatB standsB
        simp [hb0, hb1, hb2, hkd]
    · rw [List.pairwise_append]
      refine ⟨h.apart, by simp, fun a ha b hb => ?_⟩
      rw [List.mem_singleton] at hb; subst hb
      exact atI_neg hc.1 a ha
  rcases hk with rfl | rfl | rfl | rfl | rfl | rfl | rfl
  · have l0 := hl 0 (by rw [hn]; decide)
    have l1 := hl 1 (by rw [hn]; decide)
    have l2 := hl 2 (by rw [hn]; decide)
    unfold addL seatOf at ha
    simp only [show ¬ ((1 : Nat) = 5) by decide, show ¬ ((1 : Nat) = 6) by decide, show ¬ ((1 : Nat) = 7) by decide, show ¬ ((1 : Nat) = 4) by decide, if_false] at ha
    split at ha
    · rename_i hc; injection ha with ha; subst ha; exact seatCase _ (by decide) hn l0 l1 l2 hc
    · cases ha
  · have l0 := hl 0 (by rw [hn]; decide)
    have l1 := hl 1 (by rw [hn]; decide)
    have l2 := hl 2 (by rw [hn]; decide)
    unfold addL seatOf at ha
    simp only [show ¬ ((2 : Nat) = 5) by decide, show ¬ ((2 : Nat) = 6) by decide, show ¬ ((2 : Nat) = 7) by decide, show ¬ ((2 : Nat) = 4) by decide, if_false] at ha
    split at ha
    · rename_i hc; injection ha with ha; subst ha; exact seatCase _ (by decide) hn l0 l1 l2 hc
    · cases ha
  · have l0 := hl 0 (by rw [hn]; decide)
    have l1 := hl 1 (by rw [hn]; decide)
    have l2 := hl 2 (by rw [hn]; decide)
    unfold addL seatOf at ha
    simp only [show ¬ ((3 : Nat) = 5) by decide, show ¬ ((3 : Nat) = 6) by decide, show ¬ ((3 : Nat) = 7) by decide, show ¬ ((3 : Nat) = 4) by decide, if_false] at ha
    split at ha
    · rename_i hc; injection ha with ha; subst ha; exact seatCase _ (by decide) hn l0 l1 l2 hc
    · cases ha
  · have l0 := hl 0 (by rw [hn]; decide)
    have l1 := hl 1 (by rw [hn]; decide)
    have l2 := hl 2 (by rw [hn]; decide)
    unfold addL at ha
    simp only [show ¬ ((4 : Nat) = 5) by decide, show ¬ ((4 : Nat) = 6) by decide, show ¬ ((4 : Nat) = 7) by decide, if_false, if_true] at ha
    split at ha
    · rename_i hc; injection ha with ha; subst ha
      refine { h with pole := fun p hp => ?_, lp := by simp; omega }
      rcases List.mem_append.1 hp with hp | hp
      · exact h.pole p hp
      · rw [List.mem_singleton] at hp; subst hp
        have l0' : coordB (nOf rest 0) = true := l0
        have l1' : coordB (nOf rest 1) = true := l1
        have l2' : lengthB (nOf rest 2) = true := l2
        unfold poleB standsB
        simp [l0', l1', l2']
    · cases ha
  · have l0 := hl 0 (by rw [hn]; decide)
    unfold addL at ha
    simp only [if_true] at ha
    split at ha
    · injection ha with ha; subst ha; exact { h with gap := .inr l0 }
    · cases ha
  · have l0 := hl 0 (by rw [hn]; decide)
    unfold addL at ha
    simp only [show ¬ ((6 : Nat) = 5) by decide, if_false, if_true] at ha
    split at ha
    · injection ha with ha; subst ha; exact { h with radius := l0 }
    · cases ha
  · unfold addL at ha
    simp only [show ¬ ((7 : Nat) = 5) by decide, show ¬ ((7 : Nat) = 6) by decide, if_false, if_true] at ha
    split at ha
    · rename_i hc; injection ha with ha; subst ha; exact { h with lk := by simp; omega }
    · cases ha
theorem GoodSt.line {s s' : St} {ts : List T} {e : Int × Int} (h : GoodSt s) (hl : lineL ts e s = .ok s') : GoodSt s' := by
  cases ts with
  | nil => injection hl with hl; subst hl; exact h
  | cons t rest =>
    obtain ⟨tk, tn, tl, tc, tt⟩ := t
    cases ht : tellL (tk, tn, tl, tc, tt) rest e with
    | some p => rw [lineL_bad ht] at hl; cases hl
    | none =>
      obtain ⟨k, k1, k7, rfl, hkk, hkn, hkr⟩ := tell_none ht
      cases ha : addL (kindL (wordK k)) (tk, tn, tl, tc, wordK k) rest s with
      | none => rw [lineL_no ht ha] at hl; cases hl
      | some s2 =>
        rw [lineL_add ht ha] at hl
        injection hl with hl; subst hl
        rw [hkk] at ha
        exact h.add k1 k7 hkn hkr ha
theorem GoodSt.lines {ts : List T} {e : Int × Int} : ∀ (f a : Nat) (s s' : St), GoodSt s → linesL ts e f a s = .ok s' → GoodSt s'
  | 0, _, s, s', h, hl => by injection hl with hl; subst hl; exact h
  | f + 1, a, s, s', h, hl => by
    rw [linesL_succ] at hl
    split at hl
    · cases h1 : lineL (Tok.lineTs ts a) (endL ts a e) s with
      | error p => rw [h1] at hl; cases hl
      | ok s2 => rw [h1] at hl; exact GoodSt.lines f _ s2 s' (h.line h1) hl
    · injection hl with hl; subst hl; exact h
theorem killsL_good {S : List Seat} : ∀ (ks : List Kill) (acc K : List Int), (∀ k ∈ acc, isSeatB k S.length = true) → killsL S ks acc = .ok K → (∀ k ∈ K, isSeatB k S.length = true) ∧ K.length = acc.length + ks.length
  | [], acc, K, h, hk => by injection hk with hk; subst hk; exact ⟨h, rfl⟩
  | f :: r, acc, K, h, hk => by
    unfold killsL at hk
    split at hk
    · cases hk
    · rename_i h0
      split at hk
      · cases hk
      · have := killsL_good r (acc ++ [atI S f.row f.x]) K (fun k hkm => by
          rcases List.mem_append.1 hkm with hkm | hkm
          · exact h k hkm
          · rw [List.mem_singleton] at hkm; subst hkm
            have := atI_lt S f.row f.x
            unfold isSeatB; simp; omega) hk
        refine ⟨this.1, ?_⟩
        rw [this.2]; simp; omega
structure GoodV (V : Ven) : Prop where
  seat : ∀ x ∈ V.seats, seatB x = true
  apart : V.seats.Pairwise keyNe
  one : 1 ≤ V.seats.length
  ls : V.seats.length ≤ 4096
  gap : lengthB V.gap = true
  radius : distB V.radius = true
  pole : ∀ p ∈ V.poles, poleB p = true
  lp : V.poles.length ≤ 200
  kill : ∀ k ∈ V.kills, isSeatB k V.seats.length = true
  lk : V.kills.length ≤ 200
theorem readL_good {l : List UInt8} {V : Ven} (h : readL l = .ok V) : GoodV V := by
  unfold readL at h
  split at h
  · cases h
  · rcases hA : Tok.allOf l with ⟨ts, li, co, code⟩
    simp only [hA] at h
    split at h
    · cases hL : linesL ts (li, co) (ts.length + 1) 0 St.zero with
      | error p => rw [hL] at h; cases h
      | ok s =>
        rw [hL] at h
        have hs := GoodSt.lines _ _ _ _ GoodSt.zero hL
        cases hw : wholeL s (li, co) with
        | error p => simp only [hw] at h; cases h
        | ok V' =>
          simp only [hw] at h
          injection h with h; subst h
          unfold wholeL at hw
          split at hw
          · cases hw
          · rename_i hne
            cases hk : killsL s.seats s.kills [] with
            | error p => rw [hk] at hw; cases hw
            | ok K =>
              rw [hk] at hw
              injection hw with hw; subst hw
              obtain ⟨k1, k2⟩ := killsL_good s.kills [] K (by simp) hk
              have hsl : ¬ s.seats = [] := fun hc => hne (.inl hc)
              have hg : ¬ s.gap = 0 := fun hc => hne (.inr hc)
              refine ⟨hs.seat, hs.apart, ?_, hs.ls, hs.gap.resolve_left hg, hs.radius, hs.pole, hs.lp, k1, ?_⟩
              · show 1 ≤ s.seats.length
                have : ¬ s.seats.length = 0 := fun hc => hsl (List.length_eq_zero_iff.1 hc)
                omega
              · show K.length ≤ 200
                rw [k2]; have := hs.lk; simp; omega
    · cases h
theorem posOf_few {V : Ven} {ord : List Nat} (ho : IsOrder V.seats ord) : (posOf V.kills ord V.seats.length).length ≤ V.kills.length := by
  have hn : ord.Nodup := ho.perm.nodup_iff.2 List.nodup_range
  have hlen := ho.length
  have hnd : ((List.range V.seats.length).filter (fun j => markB V.kills ord[j]!)).Nodup := List.nodup_range.filter _
  have hsub : ((List.range V.seats.length).filter (fun j => markB V.kills ord[j]!)).map (fun j => ((ord[j]! : Nat) : Int)) ⊆ V.kills := by
    intro x hx
    obtain ⟨j, hj, rfl⟩ := List.mem_map.1 hx
    rw [List.mem_filter] at hj
    unfold markB at hj
    exact of_decide_eq_true hj.2
  have hinj : (((List.range V.seats.length).filter (fun j => markB V.kills ord[j]!)).map (fun j => ((ord[j]! : Nat) : Int))).Nodup := by
    unfold List.Nodup
    rw [List.pairwise_map]
    refine List.Pairwise.imp_of_mem ?_ hnd
    intro a b ha hb hab hc
    rw [List.mem_filter, List.mem_range] at ha hb
    rw [getElem!_pos ord a (by omega), getElem!_pos ord b (by omega)] at hc
    exact hab ((List.getElem_inj hn).1 (by omega))
  have := hinj.length_le_of_subset hsub
  unfold posOf
  simpa using this
/-- A good venue is sorted, and then it may be. -/
theorem norm_good {V : Ven} (hV : GoodV V) {r : Option Ven} (h : NormTo V r) : ∃ ord, IsOrder V.seats ord ∧ r = some (normU V ord) ∧ mayB (normU V ord) = true := by
  rcases h with ⟨_, h⟩ | ⟨_, _, _, ord, ho, hr⟩
  · exfalso
    rcases h with h | h | h
    · have := hV.ls; omega
    · have := hV.lp; omega
    · rw [List.all_eq_true.2 hV.kill] at h; cases h
  · have hm : mayB (normU V ord) = true := by
      have hp := pick_perm ho
      have hpl : (pick V.seats ord).length = V.seats.length := hp.length_eq
      unfold mayB
      simp only [Bool.and_eq_true]
      refine ⟨⟨⟨⟨?_, hV.gap⟩, hV.radius⟩, ?_⟩, ?_⟩
      · refine (seatsB_iff _).2 ⟨?_, ?_, fun s hs => hV.seat s (hp.mem_iff.1 hs), pick_rising ho hV.apart⟩
        · show 1 ≤ (pick V.seats ord).length; rw [hpl]; exact hV.one
        · show (pick V.seats ord).length ≤ 4096; rw [hpl]; exact hV.ls
      · refine (killsB_iff _ _).2 ⟨Nat.le_trans (posOf_few ho) hV.lk, fun k hk => ?_, posOf_rising _ _ _⟩
        obtain ⟨j, hj, _, rfl⟩ := (mem_posOf _ _ _ _).1 hk
        unfold isSeatB
        show (decide (0 ≤ (j : Int)) && decide ((j : Int) < ((pick V.seats ord).length : Int))) = true
        rw [hpl]; simp; omega
      · exact (polesB_iff _).2 ⟨hV.lp, hV.pole⟩
    exact ⟨ord, ho, by rw [hr, if_pos hm], hm⟩
end Go.Proofs.YtpkjhlcolgoknaaGreatDoor.Par
