/- The tokens of a text, as plain functions of lists of bytes; parterreref2.Decimal by its contract: a decimal, and what it is read as; All tokens of a text, step by step from the left: plain facts. -/
import Derived.Lib.ParseIntB
import Derived.Test.YtpkjhlcolgoknaaGreatDoorProg
import Derived.WalkKit
import Derived.Lib.ItoaMem
import Derived.Lib.ItoaLen
import Derived.WalkSpells
namespace Go.Proofs.YtpkjhlcolgoknaaGreatDoor.Tok
set_option linter.unusedVariables false

def blankB (c : UInt8) : Bool := (c.toNat : Int) == 32 || (c.toNat : Int) == 9 || (c.toNat : Int) == 13
def letterB (c : UInt8) : Bool := decide (97 ≤ (c.toNat : Int)) && decide ((c.toNat : Int) ≤ 122)
def digitB (c : UInt8) : Bool := decide (48 ≤ (c.toNat : Int)) && decide ((c.toNat : Int) ≤ 57)
def lineB (c : UInt8) : Bool := !((c.toNat : Int) == 10)

/-- How many bytes a list begins with that are of a kind. -/
def spanL (p : UInt8 → Bool) (l : List UInt8) : Nat := (l.takeWhile p).length

theorem spanL_le (p : UInt8 → Bool) (l : List UInt8) : spanL p l ≤ l.length := by
  unfold spanL; exact (List.takeWhile_sublist p).length_le
theorem spanL_cons (p : UInt8 → Bool) (c : UInt8) (r : List UInt8) : spanL p (c :: r) = if p c then spanL p r + 1 else 0 := by
  unfold spanL; rw [List.takeWhile_cons]; split <;> simp_all
theorem spanL_hit (p : UInt8 → Bool) : ∀ (l : List UInt8) (k : Nat) (hk : k < l.length), (∀ j (hj : j < k), p (l[j]'(by omega)) = true) → p l[k] = false → spanL p l = k
  | [], k, hk, _, _ => by simp at hk
  | c :: r, 0, hk, _, h => by rw [spanL_cons]; simp at h; simp [h]
  | c :: r, k + 1, hk, ha, h => by
    rw [spanL_cons, if_pos (by simpa using ha 0 (by omega)), spanL_hit p r k (by simpa using hk) (fun j hj => by simpa using ha (j + 1) (by omega)) (by simpa using h)]
theorem spanL_all (p : UInt8 → Bool) : ∀ (l : List UInt8), (∀ j (hj : j < l.length), p l[j] = true) → spanL p l = l.length
  | [], _ => rfl
  | c :: r, ha => by
    rw [spanL_cons, if_pos (show p c = true from ha 0 (by simp)), spanL_all p r (fun j hj => ha (j + 1) (by simpa using hj))]; simp

/-- What a run of digits spells, behind what was read. -/
def valL (a : Nat) (l : List UInt8) : Nat := l.foldl (fun a c => a * 10 + (c.toNat - 48)) a
theorem valL_nil (a : Nat) : valL a [] = a := by unfold valL; rw [List.foldl_nil]
theorem valL_cons (a : Nat) (c : UInt8) (r : List UInt8) : valL a (c :: r) = valL (a * 10 + (c.toNat - 48)) r := by unfold valL; rw [List.foldl_cons]
theorem valL_ge (l : List UInt8) : ∀ (a : Nat), a ≤ valL a l := by
  induction l with
  | nil => intro a; rw [valL_nil]; exact Nat.le_refl a
  | cons c r ih => intro a; rw [valL_cons]; exact Nat.le_trans (by omega) (ih (a * 10 + (c.toNat - 48)))
def num32 (l : List UInt8) : Option Int :=
  if l.head?.map (·.toNat) = some 45 then (if valL 0 l.tail ≤ 2147483648 then some (-(valL 0 l.tail : Int)) else none)
  else (if valL 0 l ≤ 2147483647 then some (valL 0 l : Int) else none)

theorem pu_nil (M a : Nat) : Go.Lib.parseUintM M a [] = .ok a := rfl
theorem pu_cons (M a : Nat) (c : UInt8) (r : List UInt8) : Go.Lib.parseUintM M a (c :: r) = if 48 ≤ c.toNat ∧ c.toNat ≤ 57 then (if 1844674407370955162 ≤ a then .range else if M < a * 10 + (c.toNat - 48) then .range else Go.Lib.parseUintM M (a * 10 + (c.toNat - 48)) r) else Go.Lib.parseUintM M a (c :: r) := by
  by_cases h : 48 ≤ c.toNat ∧ c.toNat ≤ 57
  · rw [if_pos h]; exact if_pos h
  · rw [if_neg h]
theorem parseUintM_digits (M : Nat) (hM : M < 1844674407370955162) (l : List UInt8) : ∀ (a : Nat), a ≤ M → (∀ c ∈ l, digitB c = true) → Go.Lib.parseUintM M a l = if valL a l ≤ M then .ok (valL a l) else .range := by
  induction l with
  | nil => intro a ha _; rw [pu_nil, valL_nil, if_pos ha]
  | cons c r ih =>
    intro a ha hd
    have hc := hd c (by simp)
    unfold digitB at hc
    simp at hc
    rw [pu_cons, if_pos (by omega), if_neg (by omega), valL_cons]
    by_cases h : M < a * 10 + (c.toNat - 48)
    · rw [if_pos h, if_neg]
      have := valL_ge r (a * 10 + (c.toNat - 48))
      omega
    · rw [if_neg h, ih _ (by omega) (fun x hx => hd x (by simp [hx]))]

theorem parseIntB_cons (c : UInt8) (r : List UInt8) (neg : Bool) (hn : (c.toNat = 45) = (neg = true)) (t : List UInt8) (ht : (if c.toNat = 43 ∨ c.toNat = 45 then r else c :: r) = t) (hne : t ≠ []) (hd : ∀ x ∈ t, digitB x = true) :
    Go.Lib.parseIntB 32 (c :: r) = if valL 0 t ≤ 4294967295 then (if ¬ (neg = true) ∧ 2147483648 ≤ valL 0 t then .range else if neg = true ∧ 2147483648 < valL 0 t then .range else .ok (if neg = true then -(valL 0 t : Int) else valL 0 t)) else .range := by
  unfold Go.Lib.parseIntB
  dsimp only
  rw [ht]
  simp only [hn]
  unfold Go.Lib.parseUintB
  rw [if_neg hne, show (2 ^ 32 - 1 : Nat) = 4294967295 from rfl, parseUintM_digits 4294967295 (by omega) t 0 (by omega) hd]
  by_cases h : valL 0 t ≤ 4294967295
  · rw [if_pos h, if_pos h]
  · rw [if_neg h, if_neg h]

theorem parse32_digits (l : List UInt8) (hne : l ≠ []) (hd : ∀ c ∈ l, digitB c = true) : Go.Lib.parseIntB 32 l = match num32 l with | some v => .ok v | none => .range := by
  cases l with
  | nil => exact absurd rfl hne
  | cons c r =>
    have hc := hd c (by simp)
    unfold digitB at hc
    simp at hc
    have h45 : ¬ (c.toNat = 45) := by omega
    have h43 : ¬ (c.toNat = 43 ∨ c.toNat = 45) := by omega
    rw [parseIntB_cons c r false (by simp [h45]) (c :: r) (by rw [if_neg h43]) hne hd]
    unfold num32
    rw [if_neg (show ¬ (Option.map (·.toNat) (c :: r).head? = some 45) by simp [h45])]
    generalize valL 0 (c :: r) = V
    by_cases h1 : V ≤ 2147483647
    · rw [if_pos h1, if_pos (by omega), if_neg (by omega), if_neg (by simp), if_neg (by simp)]
    · rw [if_neg h1]
      by_cases h2 : V ≤ 4294967295
      · rw [if_pos h2, if_pos ⟨by simp, by omega⟩]
      · rw [if_neg h2]

theorem parse32_minus (c : UInt8) (h45 : c.toNat = 45) (r : List UInt8) (hne : r ≠ []) (hd : ∀ c ∈ r, digitB c = true) : Go.Lib.parseIntB 32 (c :: r) = match num32 (c :: r) with | some v => .ok v | none => .range := by
  rw [parseIntB_cons c r true (by simp [h45]) r (by rw [if_pos (Or.inr h45)]) hne hd]
  unfold num32
  rw [if_pos (show Option.map (·.toNat) (c :: r).head? = some 45 by simp [h45]), List.tail_cons]
  generalize valL 0 r = V
  by_cases h1 : V ≤ 2147483648
  · rw [if_pos h1, if_pos (by omega), if_neg (by simp), if_neg (by omega), if_pos rfl]
  · rw [if_neg h1]
    by_cases h2 : V ≤ 4294967295
    · rw [if_pos h2, if_neg (by simp), if_pos ⟨rfl, by omega⟩]
    · rw [if_neg h2]

/-- A token without its place: kind, number, text; how many bytes; whether it is one. -/
abbrev Got := Int × Int × List UInt8 × Nat × Bool
def badW (r : List UInt8) : Bool := match r with | [] => false | c :: _ => digitB c || (c.toNat : Int) == 45
def badN (r : List UInt8) : Bool := match r with | [] => false | c :: _ => letterB c || (c.toNat : Int) == 45
def wordL (l : List UInt8) : Got :=
  if badW (l.drop (spanL letterB l)) then (0, 0, [], spanL letterB l, false) else (1, 0, l.take (spanL letterB l), spanL letterB l, true)
def numL (l : List UInt8) : Got :=
  match num32 (l.take (1 + spanL digitB l.tail)) with
  | none => (0, 0, [], 0, false)
  | some v => if badN (l.drop (1 + spanL digitB l.tail)) then (0, 0, [], 1 + spanL digitB l.tail, false) else (2, v, l.take (1 + spanL digitB l.tail), 1 + spanL digitB l.tail, true)
def readL (l : List UInt8) : Got :=
  match l with
  | [] => (0, 0, [], 0, false)
  | c :: r =>
    if c.toNat = 10 then (3, 0, [], 1, true)
    else if letterB c then wordL (c :: r)
    else if c.toNat = 45 then (if spanL digitB r = 0 then (0, 0, [], 0, false) else numL (c :: r))
    else if digitB c then numL (c :: r)
    else (0, 0, [], 0, false)
def unsaidL (l : List UInt8) : Nat := spanL blankB l + if (l.drop (spanL blankB l)).head?.map (·.toNat) = some 35 then spanL lineB (l.drop (spanL blankB l)) else 0
theorem unsaidL_le (l : List UInt8) : unsaidL l ≤ l.length := by
  unfold unsaidL
  have h1 := spanL_le blankB l
  have h2 := spanL_le lineB (l.drop (spanL blankB l))
  rw [List.length_drop] at h2
  split <;> omega
theorem readL_le (l : List UInt8) : (readL l).2.2.2.1 ≤ l.length := by
  cases l with
  | nil => simp [readL]
  | cons c r =>
    have h1 := spanL_le letterB (c :: r)
    have h2 := spanL_le digitB r
    have hw : (wordL (c :: r)).2.2.2.1 ≤ (c :: r).length := by
      unfold wordL; split <;> simpa using h1
    have hn : (numL (c :: r)).2.2.2.1 ≤ (c :: r).length := by
      unfold numL
      rw [List.tail_cons]
      split
      · simp
      · split <;> (simp only [List.length_cons]; omega)
    unfold readL
    dsimp only
    split
    · simp
    · split
      · exact hw
      · split
        · split
          · simp
          · exact hn
        · split
          · exact hn
          · simp
/-- A token: kind, number, line, column, text. -/
abbrev Tok := Int × Int × Int × Int × List UInt8
/-- What 'Next' answers: the token, where the next one may begin, its line and column, a code. -/
abbrev NextR := Tok × Int × Int × Int × Int
def nextL (l : List UInt8) (a : Nat) (li co : Int) : NextR :=
  if a + unsaidL (l.drop a) = l.length then ((0, 0, 0, 0, []), (a : Int) + unsaidL (l.drop a), li, co + unsaidL (l.drop a), 4)
  else match readL (l.drop (a + unsaidL (l.drop a))) with
    | (_, _, _, s, false) => ((0, 0, 0, 0, []), a, li, co + unsaidL (l.drop a) + s, 2)
    | (gk, gn, gt, s, true) => ((gk, gn, li, co + unsaidL (l.drop a), gt), (a : Int) + unsaidL (l.drop a) + s, if gk = 3 then li + 1 else li, if gk = 3 then 1 else co + unsaidL (l.drop a) + s, 0)

theorem wordL_ok {c : UInt8} {r : List UInt8} (hc : letterB c = true) : 1 ≤ spanL letterB (c :: r) := by
  rw [spanL_cons, if_pos hc]; omega
theorem readL_ok (l : List UInt8) (h : (readL l).2.2.2.2 = true) : 1 ≤ (readL l).2.2.2.1 ∧ ((readL l).1 = 1 ∨ (readL l).1 = 2 ∨ (readL l).1 = 3) := by
  cases l with
  | nil => simp [readL] at h
  | cons c r =>
    have hn : ∀ g : Got, numL (c :: r) = g → g.2.2.2.2 = true → 1 ≤ g.2.2.2.1 ∧ (g.1 = 1 ∨ g.1 = 2 ∨ g.1 = 3) := by
      intro g hg hok
      unfold numL at hg
      split at hg
      · subst hg; simp at hok
      · split at hg
        · subst hg; simp at hok
        · subst hg; exact ⟨by simp, Or.inr (Or.inl rfl)⟩
    revert h
    unfold readL
    dsimp only
    split
    · intro _; simp
    · split
      · intro h
        unfold wordL at h ⊢
        split at h
        · simp at h
        · rename_i hb
          rw [if_neg hb]
          exact ⟨wordL_ok ‹_›, Or.inl rfl⟩
      · split
        · split
          · intro h; simp at h
          · exact hn _ rfl
        · split
          · exact hn _ rfl
          · intro h; simp at h

/-- What a step leaves: a code of 0 goes on, one of 4 is the end, one of 2 an error. -/
theorem nextL_ok (l : List UInt8) (a : Nat) (ha : a ≤ l.length) (li co : Int) (h1 : 1 ≤ li) (h2 : li ≤ 1 + a) (h3 : 1 ≤ co) (h4 : co ≤ 1 + a) (r : NextR) (hr : nextL l a li co = r) :
    (r.2.2.2.2 = 0 ∧ ∃ b : Nat, r.2.1 = b ∧ a < b ∧ b ≤ l.length ∧ 1 ≤ r.2.2.1 ∧ r.2.2.1 ≤ 1 + b ∧ 1 ≤ r.2.2.2.1 ∧ r.2.2.2.1 ≤ 1 + b) ∨ r.2.2.2.2 = 4 ∨ r.2.2.2.2 = 2 := by
  have hk := unsaidL_le (l.drop a)
  rw [List.length_drop] at hk
  unfold nextL at hr
  generalize unsaidL (l.drop a) = k at *
  by_cases h : a + k = l.length
  · rw [if_pos h] at hr; subst hr; exact Or.inr (Or.inl rfl)
  · rw [if_neg h] at hr
    have hs := readL_le (l.drop (a + k))
    rw [List.length_drop] at hs
    have ho := readL_ok (l.drop (a + k))
    generalize readL (l.drop (a + k)) = g at *
    obtain ⟨gk, gn, gt, gs, ok⟩ := g
    cases ok with
    | false => subst hr; exact Or.inr (Or.inr rfl)
    | true =>
      obtain ⟨ho1, _⟩ := ho rfl
      simp only at ho1 hs
      subst hr
      refine Or.inl ⟨rfl, a + k + gs, by simp, by omega, by omega, ?_, ?_, ?_, ?_⟩
      all_goals dsimp only
      all_goals split <;> omega

/-- All tokens from a place on, with fuel. -/
def allL : Nat → List UInt8 → Nat → Int → Int → List Tok × Int × Int × Int
  | 0, _, _, li, co => ([], li, co, 0)
  | f + 1, l, a, li, co =>
    if (nextL l a li co).2.2.2.2 = 0 then
      ((nextL l a li co).1 :: (allL f l (nextL l a li co).2.1.toNat (nextL l a li co).2.2.1 (nextL l a li co).2.2.2.1).1, (allL f l (nextL l a li co).2.1.toNat (nextL l a li co).2.2.1 (nextL l a li co).2.2.2.1).2)
    else ([], (nextL l a li co).2.2.1, (nextL l a li co).2.2.2.1, if (nextL l a li co).2.2.2.2 = 4 then 0 else (nextL l a li co).2.2.2.2)
theorem allL_succ (f : Nat) (l : List UInt8) (a : Nat) (li co : Int) : allL (f + 1) l a li co =
    if (nextL l a li co).2.2.2.2 = 0 then
      ((nextL l a li co).1 :: (allL f l (nextL l a li co).2.1.toNat (nextL l a li co).2.2.1 (nextL l a li co).2.2.2.1).1, (allL f l (nextL l a li co).2.1.toNat (nextL l a li co).2.2.1 (nextL l a li co).2.2.2.1).2)
    else ([], (nextL l a li co).2.2.1, (nextL l a li co).2.2.2.1, if (nextL l a li co).2.2.2.2 = 4 then 0 else (nextL l a li co).2.2.2.2) := rfl
def allOf (l : List UInt8) : List Tok × Int × Int × Int := allL (l.length + 1) l 0 1 1
/-- How far the loop has come: so many tokens are there, the rest is what comes from here on. -/
def Far (l : List UInt8) (a : Nat) (li co : Int) (acc : List Tok) : Prop := ∃ f, l.length - a < f ∧ allOf l = (acc ++ (allL f l a li co).1, (allL f l a li co).2)
theorem Far.zero (l : List UInt8) : Far l 0 1 1 [] := ⟨l.length + 1, by omega, by simp [allOf]⟩
theorem Far.step {l : List UInt8} {a : Nat} {li co : Int} {acc : List Tok} (h : Far l a li co acc) {t : Tok} {b : Nat} {li' co' : Int} (hn : nextL l a li co = (t, (b : Int), li', co', 0)) (hb : a < b) (hbl : b ≤ l.length) : Far l b li' co' (acc ++ [t]) := by
  obtain ⟨f, hf, e⟩ := h
  cases f with
  | zero => omega
  | succ f =>
    refine ⟨f, by omega, ?_⟩
    rw [e, allL_succ, hn, if_pos rfl]
    simp
theorem Far.none {l : List UInt8} {a : Nat} {li co : Int} {acc : List Tok} (h : Far l a li co acc) {t : Tok} {b : Int} {li' co' : Int} (hn : nextL l a li co = (t, b, li', co', 4)) : allOf l = (acc, li', co', 0) := by
  obtain ⟨f, hf, e⟩ := h
  cases f with
  | zero => omega
  | succ f =>
    rw [e, allL_succ, hn]
    simp
theorem Far.text {l : List UInt8} {a : Nat} {li co : Int} {acc : List Tok} (h : Far l a li co acc) {t : Tok} {b : Int} {li' co' : Int} (hn : nextL l a li co = (t, b, li', co', 2)) : allOf l = (acc, li', co', 2) := by
  obtain ⟨f, hf, e⟩ := h
  cases f with
  | zero => omega
  | succ f =>
    rw [e, allL_succ, hn]
    simp
end Go.Proofs.YtpkjhlcolgoknaaGreatDoor.Tok

namespace Go.Proofs.YtpkjhlcolgoknaaGreatDoor.Tok
set_option linter.unusedVariables false
set_option maxRecDepth 100000
open Go.RowKit

theorem dig_piece (d : Nat) (h : d < 10) : (⟨#[48, 49, 50, 51, 52, 53, 54, 55, 56, 57]⟩ : ByteArray).extract d (d + 1) = ⟨#[UInt8.ofNat (48 + d)]⟩ := by
  match d, h with
  | 0, _ | 1, _ | 2, _ | 3, _ | 4, _ | 5, _ | 6, _ | 7, _ | 8, _ | 9, _ => rfl
theorem dig_front (d : Nat) (h : d < 10) (T : List UInt8) : (⟨#[48, 49, 50, 51, 52, 53, 54, 55, 56, 57]⟩ : ByteArray).extract d (d + 1) ++ ⟨T.toArray⟩ = ⟨(UInt8.ofNat (48 + d) :: T).toArray⟩ := by
  rw [dig_piece d h, show (⟨#[UInt8.ofNat (48 + d)]⟩ : ByteArray) = ⟨[UInt8.ofNat (48 + d)].toArray⟩ from rfl, ByteArray.mk_append_mk]
  rfl
theorem dec_step (m : Nat) (h : 9 < m) : Lib.decDigits m = Lib.decDigits (m / 10) ++ [UInt8.ofNat (48 + m % 10)] := by
  conv => lhs; rw [Lib.decDigits, dif_neg (by omega)]
theorem dec_len (u : Nat) (hu : u ≤ 9223372036854775808) : (Lib.decDigits u).length ≤ 21 := by
  rcases Nat.eq_zero_or_pos u with rfl | h
  · rw [Lib.decDigits_one (by omega)]; simp
  · have := Lib.itoa_length_le (-(u : Int)) (by omega) (by omega)
    rw [Lib.itoa_neg u h] at this
    simp at this; omega

set_option maxRecDepth 100000 in
set_option maxHeartbeats 1000000 in
theorem digits_any (u : Nat) (hu : u ≤ 9223372036854775808) (w : World) :
    Calls Tryz.prog 63 #[.int .u64 u] w fun e w' => e = .returned (.string ⟨(Lib.decDigits u).toArray⟩) ∧ w' = w := by
  have hlen := dec_len u hu
  go_enter Tryz.func63, Tryz.ntmps63
  go_wp2
  go_loop [0, 3] (fun n s => ∃ (m : Nat) (T : List UInt8), m ≤ u ∧ n = .int .u64 m ∧ s = .string ⟨T.toArray⟩ ∧ Hid (Lib.decDigits m ++ T = Lib.decDigits u)) (fun n _ => (intOf n).toNat)
  case atStart => exact ⟨u, [], Nat.le_refl _, rfl, rfl, by show _ = _; simp⟩
  case round =>
    obtain ⟨m, T, hm, rfl, rfl, HE⟩ := hrel
    have hTl : T.length ≤ 21 := by have := HE.out; rw [← this] at hlen; simp at hlen; omega
    by_cases hlt : 9 < m
    · go_wp2
      refine ⟨⟨m / 10, UInt8.ofNat (48 + m % 10) :: T, by omega, by go_num, by rw [dig_front _ (by omega)], ?_⟩, by simp [intOf]; omega⟩
      show _ = _
      rw [← HE.out, dec_step m hlt]
      simp
    · go_wp2
      go_ret
      refine ⟨?_, rfl⟩
      show Ending.returned (Value.string _) = _
      rw [dig_front _ (by omega), ← HE.out, Lib.decDigits_one (by omega)]
      rfl

set_option maxHeartbeats 1000000 in
theorem Decimal_any (n : Int) (h0 : -9223372036854775808 ≤ n) (h1 : n ≤ 9223372036854775807) (w : World) :
    Calls Tryz.prog 37 #[.int .i64 n] w fun e w' => e = .returned (.string ⟨(Lib.itoa n).toArray⟩) ∧ w' = w := by
  by_cases hn : n < 0
  · obtain ⟨u, rfl⟩ : ∃ u : Nat, n = -(u : Int) := ⟨n.natAbs, by omega⟩
    rw [Lib.itoa_neg u (by omega)]
    have hlen := dec_len u (by omega)
    go_enter Tryz.func37, Tryz.ntmps37
    go_wp2_with fail
    rw [show (-(-(u : Int) + 1) + 1) = (u : Int) by omega]
    refine (digits_any u (by omega) _).mono ?_
    rintro e w' ⟨rfl, rfl⟩
    go_wp2
    go_ret
    refine ⟨?_, rfl⟩
    show Ending.returned (Value.string _) = _
    rw [show (⟨#[45]⟩ : ByteArray) = ⟨[45].toArray⟩ from rfl, ByteArray.mk_append_mk]
    rfl
  · obtain ⟨u, rfl⟩ := Int.eq_ofNat_of_zero_le (show 0 ≤ n by omega)
    rw [Lib.itoa_nonneg]
    have hu : u ≤ 9223372036854775808 := by omega
    go_enter Tryz.func37, Tryz.ntmps37
    go_wp2_with (go_at_call 63; refine (digits_any u hu _).mono ?_; rintro e w' ⟨rfl, rfl⟩)
    go_ret
    exact ⟨rfl, rfl⟩

theorem valL_append (l r : List UInt8) (a : Nat) : valL a (l ++ r) = valL (valL a l) r := by unfold valL; rw [List.foldl_append]
theorem dig_toNat (d : Nat) (h : d < 10) : (UInt8.ofNat (48 + d)).toNat = 48 + d := by
  rw [UInt8.toNat_ofNat']; omega
theorem dig_is (d : Nat) (h : d < 10) : digitB (UInt8.ofNat (48 + d)) = true := by
  unfold digitB; rw [dig_toNat d h]; simp; omega
/-- The digits of a number spell it. -/
theorem dec_all (u : Nat) : valL 0 (Lib.decDigits u) = u ∧ (∀ c ∈ Lib.decDigits u, digitB c = true) ∧ Lib.decDigits u ≠ [] := by
  induction u using Nat.strongRecOn with
  | _ u ih =>
    by_cases h : 9 < u
    · obtain ⟨h1, h2, h3⟩ := ih (u / 10) (by omega)
      rw [dec_step u h]
      refine ⟨?_, ?_, by simp⟩
      · rw [valL_append, h1, valL_cons, valL_nil, dig_toNat _ (by omega)]; omega
      · intro c hc
        rcases List.mem_append.1 hc with hc | hc
        · exact h2 c hc
        · rw [List.mem_singleton.1 hc]; exact dig_is _ (by omega)
    · rw [Lib.decDigits_one (by omega)]
      refine ⟨?_, ?_, by simp⟩
      · rw [valL_cons, valL_nil, dig_toNat _ (by omega)]; omega
      · intro c hc; rw [List.mem_singleton.1 hc]; exact dig_is _ (by omega)
end Go.Proofs.YtpkjhlcolgoknaaGreatDoor.Tok

namespace Go.Proofs.YtpkjhlcolgoknaaGreatDoor.Tok
set_option linter.unusedVariables false

theorem nextL_drop (l : List UInt8) (a : Nat) (ha : a ≤ l.length) (li co : Int) :
    nextL l a li co = ((nextL (l.drop a) 0 li co).1, (a : Int) + (nextL (l.drop a) 0 li co).2.1, (nextL (l.drop a) 0 li co).2.2) := by
  unfold nextL
  rw [List.drop_zero, List.length_drop]
  generalize unsaidL (l.drop a) = k
  by_cases h : a + k = l.length
  · rw [if_pos h, if_pos (by omega)]
    simp only [Prod.mk.injEq, true_and, and_true]
    omega
  · rw [if_neg h, if_neg (by omega), List.drop_drop, Nat.zero_add]
    generalize readL (l.drop (a + k)) = g
    obtain ⟨gk, gn, gt, gs, ok⟩ := g
    cases ok with
    | false => simp
    | true => simp; omega

/-- One step on what is left: which bytes are passed over, and what is read behind them. -/
theorem nextL_cases (r : List UInt8) (li co : Int) :
    (unsaidL r = r.length ∧ nextL r 0 li co = ((0, 0, 0, 0, []), (r.length : Int), li, co + r.length, 4)) ∨
    (unsaidL r < r.length ∧ ∃ gk gn gt gs, readL (r.drop (unsaidL r)) = (gk, gn, gt, gs, false) ∧ nextL r 0 li co = ((0, 0, 0, 0, []), 0, li, co + unsaidL r + gs, 2)) ∨
    (unsaidL r < r.length ∧ ∃ gk gn gt gs, readL (r.drop (unsaidL r)) = (gk, gn, gt, gs, true) ∧ 1 ≤ gs ∧ unsaidL r + gs ≤ r.length ∧ (gk = 1 ∨ gk = 2 ∨ gk = 3) ∧
      nextL r 0 li co = ((gk, gn, li, co + unsaidL r, gt), ((unsaidL r + gs : Nat) : Int), if gk = 3 then li + 1 else li, if gk = 3 then 1 else co + unsaidL r + gs, 0)) := by
  have hk := unsaidL_le r
  unfold nextL
  rw [List.drop_zero]
  generalize unsaidL r = k at *
  by_cases h : 0 + k = r.length
  · rw [if_pos h]
    left
    have : k = r.length := by omega
    subst this
    exact ⟨rfl, by simp⟩
  · rw [if_neg h, Nat.zero_add]
    right
    have hs := readL_le (r.drop k)
    rw [List.length_drop] at hs
    have ho := readL_ok (r.drop k)
    generalize readL (r.drop k) = g at *
    obtain ⟨gk, gn, gt, gs, ok⟩ := g
    cases ok with
    | false => left; exact ⟨by omega, gk, gn, gt, gs, rfl, by simp⟩
    | true =>
      right
      obtain ⟨o1, o2⟩ := ho rfl
      simp only at o1 o2 hs
      exact ⟨by omega, gk, gn, gt, gs, rfl, o1, by omega, o2, by simp⟩

theorem allL_drop : ∀ (f : Nat) (l : List UInt8) (a : Nat) (li co : Int), a ≤ l.length → allL f l a li co = allL f (l.drop a) 0 li co := by
  intro f
  induction f with
  | zero => intros; rfl
  | succ f ih =>
    intro l a li co ha
    rw [allL_succ, allL_succ, nextL_drop l a ha]
    rcases nextL_cases (l.drop a) li co with ⟨_, e⟩ | ⟨_, _, _, _, _, _, e⟩ | ⟨_, gk, gn, gt, gs, _, h1, h2, _, e⟩
    · rw [e]; rfl
    · rw [e]; rfl
    · rw [e]
      simp only [if_true]
      rw [List.length_drop] at h2
      have e1 : ((a : Int) + ((unsaidL (l.drop a) + gs : Nat) : Int)).toNat = a + (unsaidL (l.drop a) + gs) := by omega
      have e2 : ((unsaidL (l.drop a) + gs : Nat) : Int).toNat = unsaidL (l.drop a) + gs := by omega
      rw [e1, e2, ih l _ _ _ (by omega), ih (l.drop a) _ _ _ (by rw [List.length_drop]; omega), List.drop_drop]

theorem allL_fuel : ∀ (f f' : Nat) (r : List UInt8) (li co : Int), r.length < f → r.length < f' → allL f r 0 li co = allL f' r 0 li co := by
  intro f
  induction f with
  | zero => intro f' r li co h; omega
  | succ f ih =>
    intro f' r li co h h'
    cases f' with
    | zero => omega
    | succ f' =>
      rw [allL_succ, allL_succ]
      rcases nextL_cases r li co with ⟨_, e⟩ | ⟨_, _, _, _, _, _, e⟩ | ⟨_, gk, gn, gt, gs, _, h1, h2, _, e⟩
      · rw [e]; rfl
      · rw [e]; rfl
      · rw [e]
        simp only [if_true]
        have e2 : ((unsaidL r + gs : Nat) : Int).toNat = unsaidL r + gs := by omega
        rw [e2, allL_drop f r _ _ _ (by omega), allL_drop f' r _ _ _ (by omega), ih f' (r.drop (unsaidL r + gs)) _ _ (by rw [List.length_drop]; omega) (by rw [List.length_drop]; omega)]

/-- All tokens of what is left. -/
def allP (r : List UInt8) (li co : Int) : List Tok × Int × Int × Int := allL (r.length + 1) r 0 li co
theorem allOf_P (l : List UInt8) : allOf l = allP l 1 1 := rfl
theorem allP_step (r : List UInt8) (li co : Int) (gk gn : Int) (gt : List UInt8) (gs : Nat) (hk : unsaidL r < r.length) (hr : readL (r.drop (unsaidL r)) = (gk, gn, gt, gs, true)) :
    allP r li co = ((gk, gn, li, co + unsaidL r, gt) :: (allP (r.drop (unsaidL r + gs)) (if gk = 3 then li + 1 else li) (if gk = 3 then 1 else co + unsaidL r + gs)).1, (allP (r.drop (unsaidL r + gs)) (if gk = 3 then li + 1 else li) (if gk = 3 then 1 else co + unsaidL r + gs)).2) := by
  unfold allP
  rw [allL_succ]
  rcases nextL_cases r li co with ⟨h, e⟩ | ⟨_, _, _, _, _, h, e⟩ | ⟨_, gk', gn', gt', gs', h, h1, h2, _, e⟩
  · omega
  · rw [hr] at h; simp at h
  · rw [hr] at h
    simp only [Prod.mk.injEq, and_true] at h
    obtain ⟨rfl, rfl, rfl, rfl⟩ := h
    rw [e]
    simp only [if_true]
    have e2 : ((unsaidL r + gs : Nat) : Int).toNat = unsaidL r + gs := by omega
    rw [e2, allL_drop _ r _ _ _ (by omega), allL_fuel r.length ((r.drop (unsaidL r + gs)).length + 1) _ _ _ (by rw [List.length_drop]; omega) (by omega)]
theorem allP_none (r : List UInt8) (li co : Int) (hk : unsaidL r = r.length) : allP r li co = ([], li, co + r.length, 0) := by
  unfold allP
  rw [allL_succ]
  rcases nextL_cases r li co with ⟨h, e⟩ | ⟨h, _⟩ | ⟨h, _⟩
  · rw [e]; rfl
  · omega
  · omega
theorem allP_text (r : List UInt8) (li co : Int) (gk gn : Int) (gt : List UInt8) (gs : Nat) (hk : unsaidL r < r.length) (hr : readL (r.drop (unsaidL r)) = (gk, gn, gt, gs, false)) : allP r li co = ([], li, co + unsaidL r + gs, 2) := by
  unfold allP
  rw [allL_succ]
  rcases nextL_cases r li co with ⟨h, e⟩ | ⟨_, _, _, _, _, h, e⟩ | ⟨_, gk', gn', gt', gs', h, h1, h2, _, e⟩
  · omega
  · rw [hr] at h
    simp only [Prod.mk.injEq, and_true] at h
    obtain ⟨rfl, rfl, rfl, rfl⟩ := h
    rw [e]; rfl
  · rw [hr] at h; simp at h
/-- The three ways of a text. -/
theorem allP_cases (r : List UInt8) (li co : Int) :
    (unsaidL r = r.length ∧ allP r li co = ([], li, co + r.length, 0)) ∨
    (unsaidL r < r.length ∧ ∃ gk gn gt gs, readL (r.drop (unsaidL r)) = (gk, gn, gt, gs, false) ∧ allP r li co = ([], li, co + unsaidL r + gs, 2)) ∨
    (unsaidL r < r.length ∧ ∃ gk gn gt gs, readL (r.drop (unsaidL r)) = (gk, gn, gt, gs, true) ∧ 1 ≤ gs ∧ unsaidL r + gs ≤ r.length ∧ (gk = 1 ∨ gk = 2 ∨ gk = 3) ∧
      allP r li co = ((gk, gn, li, co + unsaidL r, gt) :: (allP (r.drop (unsaidL r + gs)) (if gk = 3 then li + 1 else li) (if gk = 3 then 1 else co + unsaidL r + gs)).1, (allP (r.drop (unsaidL r + gs)) (if gk = 3 then li + 1 else li) (if gk = 3 then 1 else co + unsaidL r + gs)).2)) := by
  rcases nextL_cases r li co with ⟨h, _⟩ | ⟨h, gk, gn, gt, gs, hr, _⟩ | ⟨h, gk, gn, gt, gs, hr, h1, h2, h3, _⟩
  · exact Or.inl ⟨h, allP_none r li co h⟩
  · exact Or.inr (Or.inl ⟨h, gk, gn, gt, gs, hr, allP_text r li co gk gn gt gs h hr⟩)
  · exact Or.inr (Or.inr ⟨h, gk, gn, gt, gs, hr, h1, h2, h3, allP_step r li co gk gn gt gs h hr⟩)

theorem spanL_append (p : UInt8 → Bool) (x y : List UInt8) (h : ∀ c ∈ x, p c = true) : spanL p (x ++ y) = x.length + spanL p y := by
  induction x with
  | nil => simp
  | cons c r ih => rw [List.cons_append, spanL_cons, if_pos (h c (by simp)), ih (fun d hd => h d (by simp [hd]))]; simp; omega
/-- Blanks ahead of what is neither a blank nor a remark. -/
theorem unsaidL_blanks (x : List UInt8) (c : UInt8) (y : List UInt8) (h : ∀ d ∈ x, blankB d = true) (hc : blankB c = false) (h35 : c.toNat ≠ 35) : unsaidL (x ++ c :: y) = x.length := by
  have e : spanL blankB (x ++ c :: y) = x.length := by rw [spanL_append _ _ _ h, spanL_cons, hc]; simp
  unfold unsaidL
  rw [e, List.drop_left, if_neg (by simpa using h35)]
  rfl
end Go.Proofs.YtpkjhlcolgoknaaGreatDoor.Tok
