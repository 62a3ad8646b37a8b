/- The tokens of a text, as plain functions of lists of bytes. -/
import Derived.Lib.ParseIntB
namespace Go.Proofs.YtgpkdjhllekihaaGreatDoor.Tok
set_option linter.unusedVariables false

def blankB (c : UInt8) : Bool := (c.toNat : Int) == 32 || (c.toNat : Int) == 9 || (c.toNat : Int) == 13
def letterB (c : UInt8) : Bool := decide (97 ≤ (c.toNat : Int)) && decide ((c.toNat : Int) ≤ 122)
def digitB (c : UInt8) : Bool := decide (48 ≤ (c.toNat : Int)) && decide ((c.toNat : Int) ≤ 57)
def lineB (c : UInt8) : Bool := !((c.toNat : Int) == 10)

/-- How many bytes a list begins with that are of a kind. -/
def spanL (p : UInt8 → Bool) (l : List UInt8) : Nat := (l.takeWhile p).length

theorem spanL_le (p : UInt8 → Bool) (l : List UInt8) : spanL p l ≤ l.length := by
 unfold spanL; exact (List.takeWhile_sublist p).length_le
theorem spanL_cons (p : UInt8 → Bool) (c : UInt8) (r : List UInt8) : spanL p (c :: r) = if p c then spanL p r + 1 else 0 := by
 unfold spanL; rw [List.takeWhile_cons]; split <;> simp_all
theorem spanL_hit (p : UInt8 → Bool) : ∀ (l : List UInt8) (k : Nat) (hk : k < l.length), (∀ j (hj : j < k), p (l[j]'(by omega)) = true) → p l[k] = false → spanL p l = k
 | [], k, hk, _, _ => by simp at hk
 | c :: r, 0, hk, _, h => by rw [spanL_cons]; simp at h; simp [h]
 | c :: r, k + 1, hk, ha, h => by
  rw [spanL_cons, if_pos (by simpa using ha 0 (by omega)), spanL_hit p r k (by simpa using hk) (fun j hj => by simpa using ha (j + 1) (by omega)) (by simpa using h)]
theorem spanL_all (p : UInt8 → Bool) : ∀ (l : List UInt8), (∀ j (hj : j < l.length), p l[j] = true) → spanL p l = l.length
 | [], _ => rfl
 | c :: r, ha => by
  rw [spanL_cons, if_pos (show p c = true from ha 0 (by simp)), spanL_all p r (fun j hj => ha (j + 1) (by simpa using hj))]; simp

/-- What a run of digits spells, behind what was read. -/
def valL (a : Nat) (l : List UInt8) : Nat := l.foldl (fun a c => a * 10 + (c.toNat - 48)) a
theorem valL_nil (a : Nat) : valL a [] = a := by unfold valL; rw [List.foldl_nil]
theorem valL_cons (a : Nat) (c : UInt8) (r : List UInt8) : valL a (c :: r) = valL (a * 10 + (c.toNat - 48)) r := by unfold valL; rw [List.foldl_cons]
theorem valL_ge (l : List UInt8) : ∀ (a : Nat), a ≤ valL a l := by
 induction l with
 | nil => intro a; rw [valL_nil]; exact Nat.le_refl a
 | cons c r ih => intro a; rw [valL_cons]; exact Nat.le_trans (by omega) (ih (a * 10 + (c.toNat - 48)))
def num32 (l : List UInt8) : Option Int :=
 if l.head?.map (·.toNat) = some 45 then (if valL 0 l.tail ≤ 2147483648 then some (-(valL 0 l.tail : Int)) else none)
 else (if valL 0 l ≤ 2147483647 then some (valL 0 l : Int) else none)

theorem pu_nil (M a : Nat) : Go.Lib.parseUintM M a [] = .ok a := rfl
theorem pu_cons (M a : Nat) (c : UInt8) (r : List UInt8) : Go.Lib.parseUintM M a (c :: r) = if 48 ≤ c.toNat ∧ c.toNat ≤ 57 then (if 1844674407370955162 ≤ a then .range else if M < a * 10 + (c.toNat - 48) then .range else Go.Lib.parseUintM M (a * 10 + (c.toNat - 48)) r) else Go.Lib.parseUintM M a (c :: r) := by
 by_cases h : 48 ≤ c.toNat ∧ c.toNat ≤ 57
 ·rw [if_pos h]; exact if_pos h
 ·rw [if_neg h]
theorem parseUintM_digits (M : Nat) (hM : M < 1844674407370955162) (l : List UInt8) : ∀ (a : Nat), a ≤ M → (∀ c ∈ l, digitB c = true) → Go.Lib.parseUintM M a l = if valL a l ≤ M then .ok (valL a l) else .range := by
 induction l with
 | nil => intro a ha _; rw [pu_nil, valL_nil, if_pos ha]
 | cons c r ih =>
  intro a ha hd
  have hc := hd c (by simp)
  unfold digitB at hc
  simp at hc
  rw [pu_cons, if_pos (by omega), if_neg (by omega), valL_cons]
  by_cases h : M < a * 10 + (c.toNat - 48)
  ·rw [if_pos h, if_neg]
   have := valL_ge r (a * 10 + (c.toNat - 48))
   omega
  ·rw [if_neg h, ih _ (by omega) (fun x hx => hd x (by simp [hx]))]

theorem parseIntB_cons (c : UInt8) (r : List UInt8) (neg : Bool) (hn : (c.toNat = 45) = (neg = true)) (t : List UInt8) (ht : (if c.toNat = 43 ∨ c.toNat = 45 then r else c :: r) = t) (hne : t ≠ []) (hd : ∀ x ∈ t, digitB x = true) :
  Go.Lib.parseIntB 32 (c :: r) = if valL 0 t ≤ 4294967295 then (if ¬ (neg = true) ∧ 2147483648 ≤ valL 0 t then .range else if neg = true ∧ 2147483648 < valL 0 t then .range else .ok (if neg = true then -(valL 0 t : Int) else valL 0 t)) else .range := by
 unfold Go.Lib.parseIntB
 dsimp only
 rw [ht]
 simp only [hn]
 unfold Go.Lib.parseUintB
 rw [if_neg hne, show (2 ^ 32 - 1 : Nat) = 4294967295 from rfl, parseUintM_digits 4294967295 (by omega) t 0 (by omega) hd]
 by_cases h : valL 0 t ≤ 4294967295
 ·rw [if_pos h, if_pos h]
 ·rw [if_neg h, if_neg h]

theorem parse32_digits (l : List UInt8) (hne : l ≠ []) (hd : ∀ c ∈ l, digitB c = true) : Go.Lib.parseIntB 32 l = match num32 l with | some v => .ok v | none => .range := by
 cases l with
 | nil => exact absurd rfl hne
 | cons c r =>
  have hc := hd c (by simp)
  unfold digitB at hc
  simp at hc
  have h45 : ¬ (c.toNat = 45) := by omega
  have h43 : ¬ (c.toNat = 43 ∨ c.toNat = 45) := by omega
  rw [parseIntB_cons c r false (by simp [h45]) (c :: r) (by rw [if_neg h43]) hne hd]
  unfold num32
  rw [if_neg (show ¬ (Option.map (·.toNat) (c :: r).head? = some 45) by simp [h45])]
  generalize valL 0 (c :: r) = V
  by_cases h1 : V ≤ 2147483647
  ·rw [if_pos h1, if_pos (by omega), if_neg (by omega), if_neg (by simp), if_neg (by simp)]
  ·rw [if_neg h1]
   by_cases h2 : V ≤ 4294967295
   ·rw [if_pos h2, if_pos ⟨by simp, by omega⟩]
   ·rw [if_neg h2]

theorem parse32_minus (c : UInt8) (h45 : c.toNat = 45) (r : List UInt8) (hne : r ≠ []) (hd : ∀ c ∈ r, digitB c = true) : Go.Lib.parseIntB 32 (c :: r) = match num32 (c :: r) with | some v => .ok v | none => .range := by
 rw [parseIntB_cons c r true (by simp [h45]) r (by rw [if_pos (Or.inr h45)]) hne hd]
 unfold num32
 rw [if_pos (show Option.map (·.toNat) (c :: r).head? = some 45 by simp [h45]), List.tail_cons]
 generalize valL 0 r = V
 by_cases h1 : V ≤ 2147483648
 ·rw [if_pos h1, if_pos (by omega), if_neg (by simp), if_neg (by omega), if_pos rfl]
 ·rw [if_neg h1]
  by_cases h2 : V ≤ 4294967295
  ·rw [if_pos h2, if_neg (by simp), if_pos ⟨rfl, by omega⟩]
  ·rw [if_neg h2]

/-- A token without its place: kind, number, text; how many bytes; whether it is one. -/
abbrev Got := Int × Int × List UInt8 × Nat × Bool
def badW (r : List UInt8) : Bool := match r with | [] => false | c :: _ => digitB c || (c.toNat : Int) == 45
def badN (r : List UInt8) : Bool := match r with | [] => false | c :: _ => letterB c || (c.toNat : Int) == 45
def wordL (l : List UInt8) : Got :=
 if badW (l.drop (spanL letterB l)) then (0, 0, [], spanL letterB l, false) else (1, 0, l.take (spanL letterB l), spanL letterB l, true)
def numL (l : List UInt8) : Got :=
 match num32 (l.take (1 + spanL digitB l.tail)) with
 | none => (0, 0, [], 0, false)
 | some v => if badN (l.drop (1 + spanL digitB l.tail)) then (0, 0, [], 1 + spanL digitB l.tail, false) else (2, v, l.take (1 + spanL digitB l.tail), 1 + spanL digitB l.tail, true)
def readL (l : List UInt8) : Got :=
 match l with
 | [] => (0, 0, [], 0, false)
 | c :: r =>
  if c.toNat = 10 then (3, 0, [], 1, true)
  else if letterB c then wordL (c :: r)
  else if c.toNat = 45 then (if spanL digitB r = 0 then (0, 0, [], 0, false) else numL (c :: r))
  else if digitB c then numL (c :: r)
  else (0, 0, [], 0, false)
def unsaidL (l : List UInt8) : Nat := spanL blankB l + if (l.drop (spanL blankB l)).head?.map (·.toNat) = some 35 then spanL lineB (l.drop (spanL blankB l)) else 0
theorem unsaidL_le (l : List UInt8) : unsaidL l ≤ l.length := by
 unfold unsaidL
 have h1 := spanL_le blankB l
 have h2 := spanL_le lineB (l.drop (spanL blankB l))
 rw [List.length_drop] at h2
 split <;> omega
theorem readL_le (l : List UInt8) : (readL l).2.2.2.1 ≤ l.length := by
 cases l with
 | nil => simp [readL]
 | cons c r =>
  have h1 := spanL_le letterB (c :: r)
  have h2 := spanL_le digitB r
  have hw : (wordL (c :: r)).2.2.2.1 ≤ (c :: r).length := by
   unfold wordL; split <;> simpa using h1
  have hn : (numL (c :: r)).2.2.2.1 ≤ (c :: r).length := by
   unfold numL
   rw [List.tail_cons]
   split
   ·simp
   ·split <;> (simp only [List.length_cons]; omega)
  unfold readL
  dsimp only
  split
  ·simp
  ·split
   ·exact hw
   ·split
    ·split
     ·simp
     ·exact hn
    ·split
     ·exact hn
     ·simp
/-- A token: kind, number, line, column, text. -/
abbrev Tok := Int × Int × Int × Int × List UInt8
/-- What 'Next' answers: the token, where the next one may begin, its line and column, a code. -/
abbrev NextR := Tok × Int × Int × Int × Int
def nextL (l : List UInt8) (a : Nat) (li co : Int) : NextR :=
 if a + unsaidL (l.drop a) = l.length then ((0, 0, 0, 0, []), (a : Int) + unsaidL (l.drop a), li, co + unsaidL (l.drop a), 4)
 else match readL (l.drop (a + unsaidL (l.drop a))) with
  | (_, _, _, s, false) => ((0, 0, 0, 0, []), a, li, co + unsaidL (l.drop a) + s, 2)
  | (gk, gn, gt, s, true) => ((gk, gn, li, co + unsaidL (l.drop a), gt), (a : Int) + unsaidL (l.drop a) + s, if gk = 3 then li + 1 else li, if gk = 3 then 1 else co + unsaidL (l.drop a) + s, 0)

theorem wordL_ok {c : UInt8} {r : List UInt8} (hc : letterB c = true) : 1 ≤ spanL letterB (c :: r) := by
 rw [spanL_cons, if_pos hc]; omega
theorem readL_ok (l : List UInt8) (h : (readL l).2.2.2.2 = true) : 1 ≤ (readL l).2.2.2.1 ∧ ((readL l).1 = 1 ∨ (readL l).1 = 2 ∨ (readL l).1 = 3) := by
 cases l with
 | nil => simp [readL] at h
 | cons c r =>
  have hn : ∀ g : Got, numL (c :: r) = g → g.2.2.2.2 = true → 1 ≤ g.2.2.2.1 ∧ (g.1 = 1 ∨ g.1 = 2 ∨ g.1 = 3) := by
   intro g hg hok
   unfold numL at hg
   split at hg
   ·subst hg; simp at hok
   ·split at hg
    ·subst hg; simp at hok
    ·subst hg; exact ⟨by simp, Or.inr (Or.inl rfl)⟩
  revert h
  unfold readL
  dsimp only
  split
  ·intro _; simp
  ·split
   ·intro h
    unfold wordL at h ⊢
    split at h
    ·simp at h
    ·rename_i hb
     rw [if_neg hb]
     exact ⟨wordL_ok ‹_›, Or.inl rfl⟩
   ·split
    ·split
     ·intro h; simp at h
     ·exact hn _ rfl
    ·split
     ·exact hn _ rfl
     ·intro h; simp at h

/-- What a step leaves: a code of 0 goes on, one of 4 is the end, one of 2 an error. -/
theorem nextL_ok (l : List UInt8) (a : Nat) (ha : a ≤ l.length) (li co : Int) (h1 : 1 ≤ li) (h2 : li ≤ 1 + a) (h3 : 1 ≤ co) (h4 : co ≤ 1 + a) (r : NextR) (hr : nextL l a li co = r) :
  (r.2.2.2.2 = 0 ∧ ∃ b : Nat, r.2.1 = b ∧ a < b ∧ b ≤ l.length ∧ 1 ≤ r.2.2.1 ∧ r.2.2.1 ≤ 1 + b ∧ 1 ≤ r.2.2.2.1 ∧ r.2.2.2.1 ≤ 1 + b) ∨ r.2.2.2.2 = 4 ∨ r.2.2.2.2 = 2 := by
 have hk := unsaidL_le (l.drop a)
 rw [List.length_drop] at hk
 unfold nextL at hr
 generalize unsaidL (l.drop a) = k at *
 by_cases h : a + k = l.length
 ·rw [if_pos h] at hr; subst hr; exact Or.inr (Or.inl rfl)
 ·rw [if_neg h] at hr
  have hs := readL_le (l.drop (a + k))
  rw [List.length_drop] at hs
  have ho := readL_ok (l.drop (a + k))
  generalize readL (l.drop (a + k)) = g at *
  obtain ⟨gk, gn, gt, gs, ok⟩ := g
  cases ok with
  | false => subst hr; exact Or.inr (Or.inr rfl)
  | true =>
   obtain ⟨ho1, _⟩ := ho rfl
   simp only at ho1 hs
   subst hr
   refine Or.inl ⟨rfl, a + k + gs, by simp, by omega, by omega, ?_, ?_, ?_, ?_⟩
   all_goals dsimp only
   all_goals split <;> omega

/-- All tokens from a place on, with fuel. -/
def allL : Nat → List UInt8 → Nat → Int → Int → List Tok × Int × Int × Int
 | 0, _, _, li, co => ([], li, co, 0)
 | f + 1, l, a, li, co =>
  if (nextL l a li co).2.2.2.2 = 0 then
   ((nextL l a li co).1 :: (allL f l (nextL l a li co).2.1.toNat (nextL l a li co).2.2.1 (nextL l a li co).2.2.2.1).1, (allL f l (nextL l a li co).2.1.toNat (nextL l a li co).2.2.1 (nextL l a li co).2.2.2.1).2)
  else ([], (nextL l a li co).2.2.1, (nextL l a li co).2.2.2.1, if (nextL l a li co).2.2.2.2 = 4 then 0 else (nextL l a li co).2.2.2.2)
theorem allL_succ (f : Nat) (l : List UInt8) (a : Nat) (li co : Int) : allL (f + 1) l a li co =
  if (nextL l a li co).2.2.2.2 = 0 then
   ((nextL l a li co).1 :: (allL f l (nextL l a li co).2.1.toNat (nextL l a li co).2.2.1 (nextL l a li co).2.2.2.1).1, (allL f l (nextL l a li co).2.1.toNat (nextL l a li co).2.2.1 (nextL l a li co).2.2.2.1).2)
  else ([], (nextL l a li co).2.2.1, (nextL l a li co).2.2.2.1, if (nextL l a li co).2.2.2.2 = 4 then 0 else (nextL l a li co).2.2.2.2) := rfl
def allOf (l : List UInt8) : List Tok × Int × Int × Int := allL (l.length + 1) l 0 1 1
/-- How far the loop has come: so many tokens are there, the rest is what comes from here on. -/
def Far (l : List UInt8) (a : Nat) (li co : Int) (acc : List Tok) : Prop := ∃ f, l.length - a < f ∧ allOf l = (acc ++ (allL f l a li co).1, (allL f l a li co).2)
theorem Far.zero (l : List UInt8) : Far l 0 1 1 [] := ⟨l.length + 1, by omega, by simp [allOf]⟩
theorem Far.step {l : List UInt8} {a : Nat} {li co : Int} {acc : List Tok} (h : Far l a li co acc) {t : Tok} {b : Nat} {li' co' : Int} (hn : nextL l a li co = (t, (b : Int), li', co', 0)) (hb : a < b) (hbl : b ≤ l.length) : Far l b li' co' (acc ++ [t]) := by
 obtain ⟨f, hf, e⟩ := h
 cases f with
 | zero => omega
 | succ f =>
  refine ⟨f, by omega, ?_⟩
  rw [e, allL_succ, hn, if_pos rfl]
  simp
theorem Far.none {l : List UInt8} {a : Nat} {li co : Int} {acc : List Tok} (h : Far l a li co acc) {t : Tok} {b : Int} {li' co' : Int} (hn : nextL l a li co = (t, b, li', co', 4)) : allOf l = (acc, li', co', 0) := by
 obtain ⟨f, hf, e⟩ := h
 cases f with
 | zero => omega
 | succ f =>
  rw [e, allL_succ, hn]
  simp
theorem Far.text {l : List UInt8} {a : Nat} {li co : Int} {acc : List Tok} (h : Far l a li co acc) {t : Tok} {b : Int} {li' co' : Int} (hn : nextL l a li co = (t, b, li', co', 2)) : allOf l = (acc, li', co', 2) := by
 obtain ⟨f, hf, e⟩ := h
 cases f with
 | zero => omega
 | succ f =>
  rw [e, allL_succ, hn]
  simp
end Go.Proofs.YtgpkdjhllekihaaGreatDoor.Tok
