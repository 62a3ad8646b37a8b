/- token.span and the kinds of bytes, by contracts; token.unsaid, word, number, read by contracts; strings.Clone, token.word by contracts; token.number, token.read by contracts; token.read by its contract; token.Next by its contract. -/
import Derived.Test.YtpkjhlcolgoknaaGreatDoorZab
import Derived.Test.YtpkjhlcolgoknaaGreatDoorProg
import Derived.WalkKit
import Derived.RowKitTokens
import Derived.Below
import Derived.Test.YtpkjhlcolgoknaaGreatDoorShelf
import Derived.Lib.Hide
import Derived.Lib.AtoiErrMem
namespace Go.Proofs.YtpkjhlcolgoknaaGreatDoor.Tok
set_option linter.unusedVariables false
set_option maxRecDepth 100000
open Go.RowKit

theorem ret_bool {a b : Bool} (h : a = b) : Ending.returned (.bool a) = .returned (.bool b) := by rw [h]
theorem ret_int {k : IntKind} {a b : Int} (h : a = b) : Ending.returned (.int k a) = .returned (.int k b) := by rw [h]

theorem bget (l : List UInt8) (b : Nat) (h : b < l.length) : (⟨l.toArray⟩ : ByteArray)[b]'h = l[b] := rfl
theorem bdrop (l : List UInt8) (b : Nat) : (⟨l.toArray⟩ : ByteArray).extract b l.length = ⟨(l.drop b).toArray⟩ := by
  apply ByteArray.ext; simp [ByteArray.data_extract]; rw [List.take_of_length_le (by simp)]
theorem btake (l : List UInt8) (k : Nat) : (⟨l.toArray⟩ : ByteArray).extract 0 k = ⟨(l.take k).toArray⟩ := by
  apply ByteArray.ext; simp [ByteArray.data_extract]

theorem isBlank_any (c : UInt8) (w : World) : Calls Tryz.prog 132 #[.int .u8 c.toNat] w fun e w' => e = .returned (.bool (blankB c)) ∧ w' = w := by
  unfold blankB
  go_enter Tryz.func132, Tryz.ntmps132
  go_wp2
  all_goals go_ret
  all_goals exact ⟨ret_bool (by (try simp_all); try omega), rfl⟩
theorem inLine_any (c : UInt8) (w : World) : Calls Tryz.prog 133 #[.int .u8 c.toNat] w fun e w' => e = .returned (.bool (lineB c)) ∧ w' = w := by
  unfold lineB
  go_enter Tryz.func133, Tryz.ntmps133
  go_wp2
  all_goals go_ret
  all_goals exact ⟨ret_bool (by simp_all [bne]), rfl⟩
theorem isLetter_any (c : UInt8) (w : World) : Calls Tryz.prog 134 #[.int .u8 c.toNat] w fun e w' => e = .returned (.bool (letterB c)) ∧ w' = w := by
  unfold letterB
  go_enter Tryz.func134, Tryz.ntmps134
  go_wp2
  all_goals go_ret
  all_goals exact ⟨ret_bool (by (try simp_all); try omega), rfl⟩
theorem isDigit_any (c : UInt8) (w : World) : Calls Tryz.prog 136 #[.int .u8 c.toNat] w fun e w' => e = .returned (.bool (digitB c)) ∧ w' = w := by
  unfold digitB
  go_enter Tryz.func136, Tryz.ntmps136
  go_wp2
  all_goals go_ret
  all_goals exact ⟨ret_bool (by (try simp_all); try omega), rfl⟩
set_option maxHeartbeats 400000 in
theorem span_any (g : Nat) (p : UInt8 → Bool) (hp : ∀ c w, Calls Tryz.prog g #[.int .u8 c.toNat] w fun e w' => e = .returned (.bool (p c)) ∧ w' = w)
    (eg : ∀ args w, (callFunc g args).run Tryz.prog w = .ok (.enter g args) w)
    (l : List UInt8) (hl : l.length ≤ 1048576) (w : World) :
    Calls Tryz.prog 131 #[.string ⟨l.toArray⟩, .func (.func g) #[] #[]] w fun e w' => e = .returned (.int .i64 (spanL p l)) ∧ w' = w := by
  have Hp : Hid (∀ c w, Calls Tryz.prog g #[.int .u8 c.toNat] w fun e w' => e = .returned (.bool (p c)) ∧ w' = w) := hp
  clear hp
  go_enter Tryz.func131, Tryz.ntmps131
  go_wp2
  go_loop [5, 8] (fun _ i => ∃ k : Nat, k ≤ l.length ∧ i = .int .i64 k ∧ Hid (∀ j (hj : j < l.length), j < k → p l[j] = true)) (fun _ i => l.length - (intOf i).toNat)
  case atStart => exact ⟨0, Nat.zero_le _, rfl, by intro j _ hj; omega⟩
  case round =>
    obtain ⟨k, hk, rfl, HA⟩ := hrel
    by_cases hlt : k < l.length
    · cases hq : p l[k] with
      | true =>
        have HQ : Hid (p l[k] = true) := hq
        clear hq
        go_wp2_with fail
        refine (Hp.out l[k] _).mono ?_
        rintro e w' ⟨rfl, rfl⟩
        rw [HQ.out]
        go_wp2
        go_round
        case rel =>
          refine ⟨k + 1, by omega, by go_num, ?_⟩
          show ∀ j (hj : j < l.length), j < k + 1 → p l[j] = true
          intro j hj h
          rcases Nat.lt_or_ge j k with h' | h'
          · exact HA.out j hj h'
          · have e : j = k := by omega
            subst e; exact HQ.out
        case measure => simp [intOf]; omega
      | false =>
        have HQ : Hid (p l[k] = false) := hq
        clear hq
        go_wp2_with fail
        refine (Hp.out l[k] _).mono ?_
        rintro e w' ⟨rfl, rfl⟩
        rw [HQ.out]
        go_wp2
        go_ret
        exact ⟨ret_int (by rw [spanL_hit p l k hlt (fun j hj => HA.out j (by omega) hj) HQ.out]), rfl⟩
    · go_wp2
      go_ret
      exact ⟨ret_int (by rw [spanL_all p l (fun j hj => HA.out j hj (by omega))]), rfl⟩

theorem enters30 : ∀ args w, (callFunc 132 args).run Tryz.prog w = .ok (.enter 132 args) w := by
  intro args w; rfl
end Go.Proofs.YtpkjhlcolgoknaaGreatDoor.Tok

namespace Go.Proofs.YtpkjhlcolgoknaaGreatDoor.Tok
set_option linter.unusedVariables false
set_option maxRecDepth 100000
open Go.RowKit Go.Shelf

theorem enters31 : ∀ args w, (callFunc 133 args).run Tryz.prog w = .ok (.enter 133 args) w := by
  intro args w; rfl
theorem enters32 : ∀ args w, (callFunc 134 args).run Tryz.prog w = .ok (.enter 134 args) w := by
  intro args w; rfl
theorem enters34 : ∀ args w, (callFunc 136 args).run Tryz.prog w = .ok (.enter 136 args) w := by
  intro args w; rfl
theorem span_blank (l : List UInt8) (hl : l.length ≤ 1048576) (w : World) :
    Calls Tryz.prog 131 #[.string ⟨l.toArray⟩, .func (.func 132) #[] #[]] w fun e w' => e = .returned (.int .i64 (spanL blankB l)) ∧ w' = w := span_any 132 blankB isBlank_any enters30 l hl w
theorem span_line (l : List UInt8) (hl : l.length ≤ 1048576) (w : World) :
    Calls Tryz.prog 131 #[.string ⟨l.toArray⟩, .func (.func 133) #[] #[]] w fun e w' => e = .returned (.int .i64 (spanL lineB l)) ∧ w' = w := span_any 133 lineB inLine_any enters31 l hl w
theorem span_letter (l : List UInt8) (hl : l.length ≤ 1048576) (w : World) :
    Calls Tryz.prog 131 #[.string ⟨l.toArray⟩, .func (.func 134) #[] #[]] w fun e w' => e = .returned (.int .i64 (spanL letterB l)) ∧ w' = w := span_any 134 letterB isLetter_any enters32 l hl w
theorem span_digit (l : List UInt8) (hl : l.length ≤ 1048576) (w : World) :
    Calls Tryz.prog 131 #[.string ⟨l.toArray⟩, .func (.func 136) #[] #[]] w fun e w' => e = .returned (.int .i64 (spanL digitB l)) ∧ w' = w := span_any 136 digitB isDigit_any enters34 l hl w

attribute [local go_sem] bget bdrop btake

set_option maxHeartbeats 400000 in
theorem unsaid_any (l : List UInt8) (hl : l.length ≤ 1048576) (w : World) :
    Calls Tryz.prog 105 #[.string ⟨l.toArray⟩] w fun e w' => e = .returned (.int .i64 (unsaidL l)) ∧ w' = w := by
  have hle := spanL_le blankB l
  unfold unsaidL
  generalize hb : spanL blankB l = b
  rw [hb] at hle
  have HB : Hid (spanL blankB l = b) := hb
  clear hb
  have hll := spanL_le lineB (l.drop b)
  rw [List.length_drop] at hll
  by_cases hlt : b < l.length
  · have hd : (l.drop b).head?.map (·.toNat) = some l[b].toNat := by simp [List.head?_drop, hlt]
    have hbl : ((b : Int) == (l.length : Int)) = false := by simp; omega
    by_cases h35 : l[b].toNat = 35
    · rw [if_pos (by rw [hd, h35])]
      have h35' : ((l[b].toNat : Int) != 35) = false := by simp; omega
      clear h35 hd
      go_enter Tryz.func105, Tryz.ntmps105
      go_wp2_with fail
      refine (span_blank l hl _).mono ?_
      rintro e w' ⟨rfl, rfl⟩
      rw [HB.out]
      go_wp2_with fail
      refine (span_line (l.drop b) (by simp; omega) _).mono ?_
      rintro e w' ⟨rfl, rfl⟩
      go_wp2
      go_ret
      exact ⟨ret_int (by omega), rfl⟩
    · rw [if_neg (by rw [hd]; simpa using h35)]
      have h35' : ((l[b].toNat : Int) != 35) = true := by simp; omega
      clear h35 hd
      go_enter Tryz.func105, Tryz.ntmps105
      go_wp2_with fail
      refine (span_blank l hl _).mono ?_
      rintro e w' ⟨rfl, rfl⟩
      rw [HB.out]
      go_wp2
      go_ret
      exact ⟨ret_int (by omega), rfl⟩
  · have e : b = l.length := by omega
    have hd : (l.drop b).head?.map (·.toNat) = none := by rw [e]; simp
    rw [if_neg (by rw [hd]; simp)]
    clear hd hll
    subst e
    go_enter Tryz.func105, Tryz.ntmps105
    go_wp2_with fail
    refine (span_blank l hl _).mono ?_
    rintro e w' ⟨rfl, rfl⟩
    rw [HB.out]
    go_wp2
    go_ret
    exact ⟨ret_int (by omega), rfl⟩
end Go.Proofs.YtpkjhlcolgoknaaGreatDoor.Tok

namespace Go.Proofs.YtpkjhlcolgoknaaGreatDoor.Tok
set_option linter.unusedVariables false
set_option maxRecDepth 100000
open Go.RowKit Go.Shelf
attribute [local go_sem] bget bdrop btake

/-- A token, as a value. -/
abbrev tokV (k n li co : Int) (t : List UInt8) : Value := .agg #[.int .i64 k, .int .i64 n, .int .i64 li, .int .i64 co, .string ⟨t.toArray⟩]
/-- What 'read' answers. -/
abbrev gotV (g : Got) : Value := .tuple #[tokV g.1 g.2.1 0 0 g.2.2.1, .int .i64 g.2.2.2.1, .bool g.2.2.2.2]

theorem bcell {W w1 : World} (hb : Below W.heap.size W w1) : (∀ b o, b < W.heap.size → w1.cell? ⟨b, o, none⟩ = W.cell? ⟨b, o, none⟩) ∧ (∀ b o, b < W.heap.size → w1.frozen? ⟨b, o, none⟩ = W.frozen? ⟨b, o, none⟩) :=
  ⟨fun b o h => hb.cell (p := ⟨b, o, none⟩) h, fun b o h => hb.frozen (p := ⟨b, o, none⟩) h⟩

theorem Clone_any (l : List UInt8) (hl : l.length ≤ 1048576) (w : World) :
    Calls Tryz.prog 149 #[.string ⟨l.toArray⟩] w fun e w' => e = .returned (.string ⟨l.toArray⟩) ∧ Below w.heap.size w w' := by
  go_enter Tryz.func149, Tryz.ntmps149
  go_wp2_with fail
  refine (Tryz.stringslite_Clone ⟨l.toArray⟩ _ (by show l.toArray.size ≤ _; simp; omega)).mono ?_
  rintro e w' ⟨rfl, hb⟩
  go_wp2
  go_ret
  exact ⟨rfl, hb⟩

set_option maxHeartbeats 1000000 in
theorem word_bad1 (l : List UInt8) (hl : l.length ≤ 1048576) (w : World) (b : Nat) (HB : Hid (spanL letterB l = b)) (hlt : b < l.length) (HD : Hid (digitB l[b] = true)) :
    Calls Tryz.prog 135 #[.string ⟨l.toArray⟩] w fun e w' => e = .returned (gotV (0, 0, [], b, false)) ∧ Below w.heap.size w w' := by
  have hbl : (b : Int) < (l.length : Int) := by omega
  go_enter Tryz.func135, Tryz.ntmps135
  go_wp2_with fail
  refine (span_letter l hl _).mono ?_
  rintro e w' ⟨rfl, rfl⟩
  rw [HB.out]
  go_wp2_with fail
  refine (isDigit_any l[b] _).mono ?_
  rintro e w' ⟨rfl, rfl⟩
  rw [HD.out]
  go_wp2
  exact bodyPost_ret (v := gotV (0, 0, [], b, false)) (by simp [results, Tryz.results135, go_sem]) rfl ⟨rfl, (Below.refl _ _).alloc (Nat.le_refl _) _⟩

set_option maxHeartbeats 1000000 in
theorem word_bad2 (l : List UInt8) (hl : l.length ≤ 1048576) (w : World) (b : Nat) (HB : Hid (spanL letterB l = b)) (hlt : b < l.length) (HD : Hid (digitB l[b] = false)) (h45 : ((l[b].toNat : Int) == 45) = true) :
    Calls Tryz.prog 135 #[.string ⟨l.toArray⟩] w fun e w' => e = .returned (gotV (0, 0, [], b, false)) ∧ Below w.heap.size w w' := by
  have hbl : (b : Int) < (l.length : Int) := by omega
  go_enter Tryz.func135, Tryz.ntmps135
  go_wp2_with fail
  refine (span_letter l hl _).mono ?_
  rintro e w' ⟨rfl, rfl⟩
  rw [HB.out]
  go_wp2_with fail
  refine (isDigit_any l[b] _).mono ?_
  rintro e w' ⟨rfl, rfl⟩
  rw [HD.out]
  go_wp2
  exact bodyPost_ret (v := gotV (0, 0, [], b, false)) (by simp [results, Tryz.results135, go_sem]) rfl ⟨rfl, (Below.refl _ _).alloc (Nat.le_refl _) _⟩

set_option maxHeartbeats 1000000 in
theorem word_good1 (l : List UInt8) (hl : l.length ≤ 1048576) (w : World) (b : Nat) (HB : Hid (spanL letterB l = b)) (hlt : b < l.length) (HD : Hid (digitB l[b] = false)) (h45 : ((l[b].toNat : Int) == 45) = false) :
    Calls Tryz.prog 135 #[.string ⟨l.toArray⟩] w fun e w' => e = .returned (gotV (1, 0, l.take b, b, true)) ∧ Below w.heap.size w w' := by
  have hbl : (b : Int) < (l.length : Int) := by omega
  go_enter Tryz.func135, Tryz.ntmps135
  go_wp2_with fail
  refine (span_letter l hl _).mono ?_
  rintro e w' ⟨rfl, rfl⟩
  rw [HB.out]
  go_wp2_with fail
  refine (isDigit_any l[b] _).mono ?_
  rintro e w' ⟨rfl, rfl⟩
  rw [HD.out]
  go_wp2_with fail
  refine (Clone_any (l.take b) (by simp; omega) _).mono ?_
  rintro e w' ⟨rfl, hb⟩
  obtain ⟨hc, hf⟩ := bcell hb
  have hz : w.heap.size < w'.heap.size := by have := hb.size; simp at this; omega
  simp at hc hf
  go_wp2
  exact bodyPost_ret (v := gotV (1, 0, l.take b, b, true)) (by simp [results, Tryz.results135, go_sem, hc]) rfl ⟨rfl, by
    repeat refine Below.setCell ?_ (by simp) _
    exact ((Below.refl _ w).alloc (Nat.le_refl _) _).trans (hb.mono (by simp))⟩

set_option maxHeartbeats 1000000 in
theorem word_good2 (l : List UInt8) (hl : l.length ≤ 1048576) (w : World) (b : Nat) (HB : Hid (spanL letterB l = b)) (hlt : b = l.length) :
    Calls Tryz.prog 135 #[.string ⟨l.toArray⟩] w fun e w' => e = .returned (gotV (1, 0, l.take b, b, true)) ∧ Below w.heap.size w w' := by
  have hbl : ¬ (b : Int) < (l.length : Int) := by omega
  have hle : b ≤ l.length := by omega
  clear hlt
  go_enter Tryz.func135, Tryz.ntmps135
  go_wp2_with fail
  refine (span_letter l hl _).mono ?_
  rintro e w' ⟨rfl, rfl⟩
  rw [HB.out]
  go_wp2_with fail
  refine (Clone_any (l.take b) (by simp; omega) _).mono ?_
  rintro e w' ⟨rfl, hb⟩
  obtain ⟨hc, hf⟩ := bcell hb
  have hz : w.heap.size < w'.heap.size := by have := hb.size; simp at this; omega
  simp at hc hf
  go_wp2
  exact bodyPost_ret (v := gotV (1, 0, l.take b, b, true)) (by simp [results, Tryz.results135, go_sem, hc]) rfl ⟨rfl, by
    repeat refine Below.setCell ?_ (by simp) _
    exact ((Below.refl _ w).alloc (Nat.le_refl _) _).trans (hb.mono (by simp))⟩


theorem word_any (l : List UInt8) (hl : l.length ≤ 1048576) (w : World) :
    Calls Tryz.prog 135 #[.string ⟨l.toArray⟩] w fun e w' => e = .returned (gotV (wordL l)) ∧ Below w.heap.size w w' := by
  have hle := spanL_le letterB l
  unfold wordL
  generalize hb : spanL letterB l = b
  rw [hb] at hle
  by_cases hlt : b < l.length
  · have hd : l.drop b = l[b] :: l.drop (b + 1) := List.drop_eq_getElem_cons hlt
    have hbw : badW (l.drop b) = (digitB l[b] || (l[b].toNat : Int) == 45) := by rw [hd]; rfl
    rw [hbw]
    cases hdg : digitB l[b] with
    | true => simpa using word_bad1 l hl w b hb hlt hdg
    | false =>
      cases h45 : ((l[b].toNat : Int) == 45) with
      | true => simpa using word_bad2 l hl w b hb hlt hdg h45
      | false => simpa using word_good1 l hl w b hb hlt hdg h45
  · have e : b = l.length := by omega
    have hd : badW (l.drop b) = false := by rw [e]; simp [badW]
    rw [hd]
    simpa using word_good2 l hl w b hb e
end Go.Proofs.YtpkjhlcolgoknaaGreatDoor.Tok

namespace Go.Proofs.YtpkjhlcolgoknaaGreatDoor.Tok
set_option linter.unusedVariables false
set_option maxRecDepth 100000
open Go.RowKit Go.Shelf
attribute [local go_sem] bget bdrop btake

/-- What the variable strconv.ErrRange holds is an error. -/
def Rng (w : World) : Prop := ∃ tp pe, w.cell? ⟨5, 0, none⟩ = some (.iface tp pe)
theorem Rng.lt {w : World} (h : Rng w) : 5 < w.heap.size := by
  obtain ⟨tp, pe, h⟩ := h
  rcases Nat.lt_or_ge 5 w.heap.size with h' | h'
  · exact h'
  · simp [World.cell?, Array.getElem?_eq_none h'] at h
theorem Rng.next {w w' : World} (h : Rng w) (hb : Below w.heap.size w w') : Rng w' := by
  have hl := h.lt
  obtain ⟨tp, pe, h⟩ := h
  exact ⟨tp, pe, by rw [hb.cell (p := ⟨5, 0, none⟩) hl]; exact h⟩

theorem Parse_ok (l : List UInt8) (hl : l.length ≤ 1048576) (v : Int) (h : Lib.parseIntB 32 l = .ok v) (w : World) :
    Calls Tryz.prog 150 #[.string ⟨l.toArray⟩, .int .i64 10, .int .i64 32] w fun e w' => e = .returned (.tuple #[.int .i64 v, .nilIface]) ∧ Below w.heap.size w w' := by
  refine (Tryz.strconv_ParseInt_10_at32_ok ⟨l.toArray⟩ (by show l.toArray.size ≤ _; simp; omega) v (by show Lib.parseIntB 32 l = _; exact h) w).mono ?_
  rintro e w' ⟨rfl, rfl | ⟨t, rfl⟩⟩
  · exact ⟨rfl, Below.refl _ _⟩
  · exact ⟨rfl, Lib.bytesWorld_below w 5 t⟩
theorem Parse_range (l : List UInt8) (hl : l.length ≤ 1048576) (h : Lib.parseIntB 32 l = .range) (w : World) (hR : Rng w) :
    Calls Tryz.prog 150 #[.string ⟨l.toArray⟩, .int .i64 10, .int .i64 32] w fun e w' => ∃ x N, e = .returned (.tuple #[.int .i64 x, .iface 235 (.pointer (some ⟨N, 0, none⟩))]) ∧ Below w.heap.size w w' := by
  obtain ⟨tp, pe, hR⟩ := hR
  refine (Tryz.strconv_ParseInt_10_at32_range ⟨l.toArray⟩ (by show l.toArray.size ≤ _; simp; omega) (by show Lib.parseIntB 32 l = _; exact h) _ w hR (Or.inr ⟨tp, pe, rfl⟩)).mono ?_
  rintro e w' ⟨N, rfl, _, _, hb⟩
  exact ⟨_, N, rfl, hb⟩

set_option maxHeartbeats 1000000 in
theorem number_range (l : List UInt8) (hl : l.length ≤ 1048576) (h1 : 1 ≤ l.length) (w : World) (k : Nat) (hk : 1 + k ≤ l.length) (HB : Hid (spanL digitB l.tail = k)) (hR : Rng w) (HP : Hid (Lib.parseIntB 32 (l.take (1 + k)) = .range)) :
    Calls Tryz.prog 137 #[.string ⟨l.toArray⟩] w fun e w' => e = .returned (gotV (0, 0, [], 0, false)) ∧ Below w.heap.size w w' := by
  go_enter Tryz.func137, Tryz.ntmps137
  go_wp2_with fail
  refine (span_digit l.tail (by simp; omega) _).mono ?_
  rintro e w' ⟨rfl, rfl⟩
  rw [HB.out]
  go_wp2_with fail
  refine (Parse_range (l.take (1 + k)) (by simp; omega) HP.out _ (hR.next ((Below.refl _ w).alloc (Nat.le_refl _) _))).mono ?_
  rintro e w1 ⟨x, NN, rfl, hb⟩
  obtain ⟨hc, hf⟩ := bcell hb
  have hz : w.heap.size < w1.heap.size := by have := hb.size; simp at this; omega
  have hB1 : Below w.heap.size w w1 := ((Below.refl _ w).alloc (Nat.le_refl _) _).trans (hb.mono (by simp))
  simp at hc hf
  clear hb
  go_wp2
  exact bodyPost_ret (v := gotV (0, 0, [], 0, false)) (by simp [results, Tryz.results137, go_sem, hc]) rfl ⟨rfl, by
    repeat refine Below.setCell ?_ (by simp) _
    exact hB1⟩

set_option maxHeartbeats 1000000 in
theorem number_bad1 (l : List UInt8) (hl : l.length ≤ 1048576) (h1 : 1 ≤ l.length) (w : World) (k : Nat) (hk : 1 + k ≤ l.length) (HB : Hid (spanL digitB l.tail = k)) (v : Int) (HP : Hid (Lib.parseIntB 32 (l.take (1 + k)) = .ok v))(hlt : 1 + k < l.length) (HD : Hid (letterB l[1 + k] = true)) :
    Calls Tryz.prog 137 #[.string ⟨l.toArray⟩] w fun e w' => e = .returned (gotV (0, 0, [], 1 + k, false)) ∧ Below w.heap.size w w' := by
  have hbl : 1 + (k : Int) < (l.length : Int) := by omega
  go_enter Tryz.func137, Tryz.ntmps137
  go_wp2_with fail
  refine (span_digit l.tail (by simp; omega) _).mono ?_
  rintro e w' ⟨rfl, rfl⟩
  rw [HB.out]
  go_wp2_with fail
  refine (Parse_ok (l.take (1 + k)) (by simp; omega) v HP.out _).mono ?_
  rintro e w1 ⟨rfl, hb⟩
  obtain ⟨hc, hf⟩ := bcell hb
  have hz : w.heap.size < w1.heap.size := by have := hb.size; simp at this; omega
  have hB1 : Below w.heap.size w w1 := ((Below.refl _ w).alloc (Nat.le_refl _) _).trans (hb.mono (by simp))
  simp at hc hf
  clear hb
  go_wp2_with fail
  refine (isLetter_any l[1 + k] _).mono ?_
  rintro e w' ⟨rfl, rfl⟩
  rw [HD.out]
  go_wp2
  exact bodyPost_ret (v := gotV (0, 0, [], 1 + k, false)) (by simp [results, Tryz.results137, go_sem, hc]) rfl ⟨rfl, by
    repeat refine Below.setCell ?_ (by simp) _
    exact hB1⟩

set_option maxHeartbeats 1000000 in
theorem number_bad2 (l : List UInt8) (hl : l.length ≤ 1048576) (h1 : 1 ≤ l.length) (w : World) (k : Nat) (hk : 1 + k ≤ l.length) (HB : Hid (spanL digitB l.tail = k)) (v : Int) (HP : Hid (Lib.parseIntB 32 (l.take (1 + k)) = .ok v))(hlt : 1 + k < l.length) (HD : Hid (letterB l[1 + k] = false)) (h45 : ((l[1 + k].toNat : Int) == 45) = true) :
    Calls Tryz.prog 137 #[.string ⟨l.toArray⟩] w fun e w' => e = .returned (gotV (0, 0, [], 1 + k, false)) ∧ Below w.heap.size w w' := by
  have hbl : 1 + (k : Int) < (l.length : Int) := by omega
  go_enter Tryz.func137, Tryz.ntmps137
  go_wp2_with fail
  refine (span_digit l.tail (by simp; omega) _).mono ?_
  rintro e w' ⟨rfl, rfl⟩
  rw [HB.out]
  go_wp2_with fail
  refine (Parse_ok (l.take (1 + k)) (by simp; omega) v HP.out _).mono ?_
  rintro e w1 ⟨rfl, hb⟩
  obtain ⟨hc, hf⟩ := bcell hb
  have hz : w.heap.size < w1.heap.size := by have := hb.size; simp at this; omega
  have hB1 : Below w.heap.size w w1 := ((Below.refl _ w).alloc (Nat.le_refl _) _).trans (hb.mono (by simp))
  simp at hc hf
  clear hb
  go_wp2_with fail
  refine (isLetter_any l[1 + k] _).mono ?_
  rintro e w' ⟨rfl, rfl⟩
  rw [HD.out]
  go_wp2
  exact bodyPost_ret (v := gotV (0, 0, [], 1 + k, false)) (by simp [results, Tryz.results137, go_sem, hc]) rfl ⟨rfl, by
    repeat refine Below.setCell ?_ (by simp) _
    exact hB1⟩

set_option maxHeartbeats 1000000 in
theorem number_good1 (l : List UInt8) (hl : l.length ≤ 1048576) (h1 : 1 ≤ l.length) (w : World) (k : Nat) (hk : 1 + k ≤ l.length) (HB : Hid (spanL digitB l.tail = k)) (v : Int) (HP : Hid (Lib.parseIntB 32 (l.take (1 + k)) = .ok v))(hlt : 1 + k < l.length) (HD : Hid (letterB l[1 + k] = false)) (h45 : ((l[1 + k].toNat : Int) == 45) = false) :
    Calls Tryz.prog 137 #[.string ⟨l.toArray⟩] w fun e w' => e = .returned (gotV (2, v, l.take (1 + k), 1 + k, true)) ∧ Below w.heap.size w w' := by
  have hbl : 1 + (k : Int) < (l.length : Int) := by omega
  go_enter Tryz.func137, Tryz.ntmps137
  go_wp2_with fail
  refine (span_digit l.tail (by simp; omega) _).mono ?_
  rintro e w' ⟨rfl, rfl⟩
  rw [HB.out]
  go_wp2_with fail
  refine (Parse_ok (l.take (1 + k)) (by simp; omega) v HP.out _).mono ?_
  rintro e w1 ⟨rfl, hb⟩
  obtain ⟨hc, hf⟩ := bcell hb
  have hz : w.heap.size < w1.heap.size := by have := hb.size; simp at this; omega
  have hB1 : Below w.heap.size w w1 := ((Below.refl _ w).alloc (Nat.le_refl _) _).trans (hb.mono (by simp))
  simp at hc hf
  clear hb
  go_wp2_with fail
  refine (isLetter_any l[1 + k] _).mono ?_
  rintro e w' ⟨rfl, rfl⟩
  rw [HD.out]
  go_wp2_with fail
  refine (Clone_any (l.take (1 + k)) (by simp; omega) _).mono ?_
  rintro e w2 ⟨rfl, hb⟩
  obtain ⟨hc2, hf2⟩ := bcell hb
  have hz2 : w.heap.size < w2.heap.size := by have := hb.size; omega
  have hB2 : Below w.heap.size w w2 := hB1.trans (hb.mono (by omega))
  clear hb hB1
  go_wp2
  exact bodyPost_ret (v := gotV (2, v, l.take (1 + k), 1 + k, true)) (by simp [results, Tryz.results137, go_sem, hc, hz, hc2]) rfl ⟨rfl, by
    repeat refine Below.setCell ?_ (by simp) _
    exact hB2⟩

set_option maxHeartbeats 1000000 in
theorem number_good2 (l : List UInt8) (hl : l.length ≤ 1048576) (h1 : 1 ≤ l.length) (w : World) (k : Nat) (hk : 1 + k ≤ l.length) (HB : Hid (spanL digitB l.tail = k)) (v : Int) (HP : Hid (Lib.parseIntB 32 (l.take (1 + k)) = .ok v)) (hlt : 1 + k = l.length) :
    Calls Tryz.prog 137 #[.string ⟨l.toArray⟩] w fun e w' => e = .returned (gotV (2, v, l.take (1 + k), 1 + k, true)) ∧ Below w.heap.size w w' := by
  have hbl : ¬ 1 + (k : Int) < (l.length : Int) := by omega
  have HL : Hid (1 + k = l.length) := hlt
  clear hlt
  go_enter Tryz.func137, Tryz.ntmps137
  go_wp2_with fail
  refine (span_digit l.tail (by simp; omega) _).mono ?_
  rintro e w' ⟨rfl, rfl⟩
  rw [HB.out]
  go_wp2_with fail
  refine (Parse_ok (l.take (1 + k)) (by simp; omega) v HP.out _).mono ?_
  rintro e w1 ⟨rfl, hb⟩
  obtain ⟨hc, hf⟩ := bcell hb
  have hz : w.heap.size < w1.heap.size := by have := hb.size; simp at this; omega
  have hB1 : Below w.heap.size w w1 := ((Below.refl _ w).alloc (Nat.le_refl _) _).trans (hb.mono (by simp))
  simp at hc hf
  clear hb
  go_wp2_with fail
  refine (Clone_any (l.take (1 + k)) (by simp; omega) _).mono ?_
  rintro e w2 ⟨rfl, hb⟩
  obtain ⟨hc2, hf2⟩ := bcell hb
  have hz2 : w.heap.size < w2.heap.size := by have := hb.size; omega
  have hB2 : Below w.heap.size w w2 := hB1.trans (hb.mono (by omega))
  clear hb hB1
  go_wp2
  exact bodyPost_ret (v := gotV (2, v, l.take (1 + k), 1 + k, true)) (by simp [results, Tryz.results137, go_sem, hc, hz, hc2]) rfl ⟨rfl, by
    repeat refine Below.setCell ?_ (by simp) _
    exact hB2⟩


theorem takeWhile_all (p : UInt8 → Bool) (l : List UInt8) : ∀ c ∈ l.take (spanL p l), p c = true := by
  unfold spanL
  induction l with
  | nil => intro c hc; simp at hc
  | cons a r ih =>
    rw [List.takeWhile_cons]
    by_cases h : p a = true
    · rw [if_pos h]; intro c hc; simp at hc
      rcases hc with rfl | hc
      · exact h
      · exact ih c hc
    · rw [if_neg h]; intro c hc; simp at hc

/-- A run of digits, or a sign and a run of digits that is not empty, is read as a number. -/
theorem parse32_at (c : UInt8) (r : List UInt8) (h : digitB c = true ∨ (c.toNat = 45 ∧ spanL digitB r ≠ 0)) :
    Lib.parseIntB 32 ((c :: r).take (1 + spanL digitB r)) = match num32 ((c :: r).take (1 + spanL digitB r)) with | some v => .ok v | none => .range := by
  have hall := takeWhile_all digitB r
  rw [Nat.add_comm 1, List.take_succ_cons]
  rcases h with h | ⟨h, hz⟩
  · exact parse32_digits _ (by simp) (by intro x hx; rcases List.mem_cons.1 hx with rfl | hx; exact h; exact hall x hx)
  · refine parse32_minus c h _ ?_ hall
    intro e
    have := congrArg List.length e
    have hle := spanL_le digitB r
    simp at this; rcases this with h0 | h0
    · exact hz h0
    · subst h0; simp at hle; exact hz hle

theorem number_any (c : UInt8) (r : List UInt8) (h : digitB c = true ∨ (c.toNat = 45 ∧ spanL digitB r ≠ 0)) (hl : (c :: r).length ≤ 1048576) (w : World) (hR : Rng w) :
    Calls Tryz.prog 137 #[.string ⟨(c :: r).toArray⟩] w fun e w' => e = .returned (gotV (numL (c :: r))) ∧ Below w.heap.size w w' := by
  have hp := parse32_at c r h
  have hle := spanL_le digitB r
  clear h
  unfold numL
  rw [List.tail_cons]
  generalize hb : spanL digitB r = k
  rw [hb] at hle hp
  have hb' : spanL digitB (c :: r).tail = k := hb
  clear hb
  have h1 : 1 ≤ (c :: r).length := by simp
  have hk : 1 + k ≤ (c :: r).length := by simp; omega
  generalize c :: r = l at *
  cases hn : num32 (l.take (1 + k)) with
  | none =>
    rw [hn] at hp
    exact number_range l hl h1 w k hk hb' hR hp
  | some v =>
    rw [hn] at hp
    by_cases hlt : 1 + k < l.length
    · have hd : l.drop (1 + k) = l[1 + k] :: l.drop (1 + k + 1) := List.drop_eq_getElem_cons hlt
      have hbw : badN (l.drop (1 + k)) = (letterB l[1 + k] || (l[1 + k].toNat : Int) == 45) := by rw [hd]; rfl
      simp only [hbw]
      cases hdg : letterB l[1 + k] with
      | true => simpa using number_bad1 l hl h1 w k hk hb' v hp hlt hdg
      | false =>
        cases h45 : ((l[1 + k].toNat : Int) == 45) with
        | true => simpa using number_bad2 l hl h1 w k hk hb' v hp hlt hdg h45
        | false => simpa using number_good1 l hl h1 w k hk hb' v hp hlt hdg h45
    · have e : 1 + k = l.length := by omega
      have hd : badN (l.drop (1 + k)) = false := by rw [e]; simp [badN]
      simp only [hd]
      simpa using number_good2 l hl h1 w k hk hb' v hp e

end Go.Proofs.YtpkjhlcolgoknaaGreatDoor.Tok

namespace Go.Proofs.YtpkjhlcolgoknaaGreatDoor.Tok
set_option linter.unusedVariables false
set_option maxRecDepth 100000
open Go.RowKit Go.Shelf
attribute [local go_sem] bget bdrop btake

set_option maxHeartbeats 1000000 in
theorem read_end (l : List UInt8) (hl : l.length ≤ 1048576) (h0 : 0 < l.length) (w : World) (h10 : ((l[0].toNat : Int) == 10) = true) :
    Calls Tryz.prog 106 #[.string ⟨l.toArray⟩] w fun e w' => e = .returned (gotV (3, 0, [], 1, true)) ∧ Below w.heap.size w w' := by
  go_enter Tryz.func106, Tryz.ntmps106
  go_wp2
  exact bodyPost_ret (v := gotV (3, 0, [], 1, true)) (by simp [results, Tryz.results106, go_sem]) rfl ⟨rfl, (Below.refl _ _).alloc (Nat.le_refl _) _⟩

set_option maxHeartbeats 1000000 in
theorem read_word (l : List UInt8) (hl : l.length ≤ 1048576) (h0 : 0 < l.length) (w : World) (h10 : ((l[0].toNat : Int) == 10) = false)(HL : Hid (letterB l[0] = true))(g : Got) (HG : Hid (wordL l = g)) :
    Calls Tryz.prog 106 #[.string ⟨l.toArray⟩] w fun e w' => e = .returned (gotV g) ∧ Below w.heap.size w w' := by
  go_enter Tryz.func106, Tryz.ntmps106
  go_wp2_with fail
  refine (isLetter_any l[0] _).mono ?_
  rintro e w' ⟨rfl, rfl⟩
  rw [HL.out]
  go_wp2_with fail
  refine (word_any l hl _).mono ?_
  rintro e w1 ⟨rfl, hb⟩
  obtain ⟨hc, hf⟩ := bcell hb
  have hz : w.heap.size < w1.heap.size := by have := hb.size; simp at this; omega
  have hB1 : Below w.heap.size w w1 := ((Below.refl _ w).alloc (Nat.le_refl _) _).trans (hb.mono (by simp))
  simp at hc hf
  clear hb
  rw [HG.out]
  obtain ⟨gk, gn, gt, gs, go⟩ := g
  go_wp2
  exact bodyPost_ret (v := gotV (gk, gn, gt, gs, go)) (by simp [results, Tryz.results106, go_sem, hc]) rfl ⟨rfl, by
    repeat refine Below.setCell ?_ (by simp) _
    exact hB1⟩

set_option maxHeartbeats 1000000 in
theorem read_minus0 (l : List UInt8) (hl : l.length ≤ 1048576) (h0 : 0 < l.length) (w : World) (h10 : ((l[0].toNat : Int) == 10) = false)(HL : Hid (letterB l[0] = false))(h45 : ((l[0].toNat : Int) == 45) = true)(hs : ((spanL digitB l.tail : Int) == 0) = true) :
    Calls Tryz.prog 106 #[.string ⟨l.toArray⟩] w fun e w' => e = .returned (gotV (0, 0, [], 0, false)) ∧ Below w.heap.size w w' := by
  go_enter Tryz.func106, Tryz.ntmps106
  go_wp2_with fail
  refine (isLetter_any l[0] _).mono ?_
  rintro e w' ⟨rfl, rfl⟩
  rw [HL.out]
  go_wp2_with fail
  refine (span_digit l.tail (by simp; omega) _).mono ?_
  rintro e w' ⟨rfl, rfl⟩
  go_wp2
  exact bodyPost_ret (v := gotV (0, 0, [], 0, false)) (by simp [results, Tryz.results106, go_sem]) rfl ⟨rfl, (Below.refl _ _).alloc (Nat.le_refl _) _⟩

set_option maxHeartbeats 1000000 in
theorem read_minus (l : List UInt8) (hl : l.length ≤ 1048576) (h0 : 0 < l.length) (w : World) (h10 : ((l[0].toNat : Int) == 10) = false)(HL : Hid (letterB l[0] = false))(h45 : ((l[0].toNat : Int) == 45) = true)(hs : ((spanL digitB l.tail : Int) == 0) = false) (g : Got) (HG : Hid (numL l = g))(hn : ∀ w : World, Rng w → Calls Tryz.prog 137 #[.string ⟨l.toArray⟩] w fun e w' => e = .returned (gotV (numL l)) ∧ Below w.heap.size w w') (hR : Rng w) :
    Calls Tryz.prog 106 #[.string ⟨l.toArray⟩] w fun e w' => e = .returned (gotV g) ∧ Below w.heap.size w w' := by
  have HN : Hid (∀ w : World, Rng w → Calls Tryz.prog 137 #[.string ⟨l.toArray⟩] w fun e w' => e = .returned (gotV (numL l)) ∧ Below w.heap.size w w') := hn
  clear hn
  go_enter Tryz.func106, Tryz.ntmps106
  go_wp2_with fail
  refine (isLetter_any l[0] _).mono ?_
  rintro e w' ⟨rfl, rfl⟩
  rw [HL.out]
  go_wp2_with fail
  refine (span_digit l.tail (by simp; omega) _).mono ?_
  rintro e w' ⟨rfl, rfl⟩
  go_wp2_with fail
  refine (HN.out _ (by exact hR.next ((Below.refl _ w).alloc (Nat.le_refl _) _))).mono ?_
  rintro e w1 ⟨rfl, hb⟩
  obtain ⟨hc, hf⟩ := bcell hb
  have hz : w.heap.size < w1.heap.size := by have := hb.size; simp at this; omega
  have hB1 : Below w.heap.size w w1 := ((Below.refl _ w).alloc (Nat.le_refl _) _).trans (hb.mono (by simp))
  simp at hc hf
  clear hb
  rw [HG.out]
  obtain ⟨gk, gn, gt, gs, go⟩ := g
  go_wp2
  exact bodyPost_ret (v := gotV (gk, gn, gt, gs, go)) (by simp [results, Tryz.results106, go_sem, hc]) rfl ⟨rfl, by
    repeat refine Below.setCell ?_ (by simp) _
    exact hB1⟩

set_option maxHeartbeats 1000000 in
theorem read_num (l : List UInt8) (hl : l.length ≤ 1048576) (h0 : 0 < l.length) (w : World) (h10 : ((l[0].toNat : Int) == 10) = false)(HL : Hid (letterB l[0] = false))(h45 : ((l[0].toNat : Int) == 45) = false)(HD : Hid (digitB l[0] = true)) (g : Got) (HG : Hid (numL l = g))(hn : ∀ w : World, Rng w → Calls Tryz.prog 137 #[.string ⟨l.toArray⟩] w fun e w' => e = .returned (gotV (numL l)) ∧ Below w.heap.size w w') (hR : Rng w) :
    Calls Tryz.prog 106 #[.string ⟨l.toArray⟩] w fun e w' => e = .returned (gotV g) ∧ Below w.heap.size w w' := by
  have HN : Hid (∀ w : World, Rng w → Calls Tryz.prog 137 #[.string ⟨l.toArray⟩] w fun e w' => e = .returned (gotV (numL l)) ∧ Below w.heap.size w w') := hn
  clear hn
  go_enter Tryz.func106, Tryz.ntmps106
  go_wp2_with fail
  refine (isLetter_any l[0] _).mono ?_
  rintro e w' ⟨rfl, rfl⟩
  rw [HL.out]
  go_wp2_with fail
  refine (isDigit_any l[0] _).mono ?_
  rintro e w' ⟨rfl, rfl⟩
  rw [HD.out]
  go_wp2_with fail
  refine (HN.out _ (by exact hR.next ((Below.refl _ w).alloc (Nat.le_refl _) _))).mono ?_
  rintro e w1 ⟨rfl, hb⟩
  obtain ⟨hc, hf⟩ := bcell hb
  have hz : w.heap.size < w1.heap.size := by have := hb.size; simp at this; omega
  have hB1 : Below w.heap.size w w1 := ((Below.refl _ w).alloc (Nat.le_refl _) _).trans (hb.mono (by simp))
  simp at hc hf
  clear hb
  rw [HG.out]
  obtain ⟨gk, gn, gt, gs, go⟩ := g
  go_wp2
  exact bodyPost_ret (v := gotV (gk, gn, gt, gs, go)) (by simp [results, Tryz.results106, go_sem, hc]) rfl ⟨rfl, by
    repeat refine Below.setCell ?_ (by simp) _
    exact hB1⟩

set_option maxHeartbeats 1000000 in
theorem read_none (l : List UInt8) (hl : l.length ≤ 1048576) (h0 : 0 < l.length) (w : World) (h10 : ((l[0].toNat : Int) == 10) = false)(HL : Hid (letterB l[0] = false))(h45 : ((l[0].toNat : Int) == 45) = false)(HD : Hid (digitB l[0] = false)) :
    Calls Tryz.prog 106 #[.string ⟨l.toArray⟩] w fun e w' => e = .returned (gotV (0, 0, [], 0, false)) ∧ Below w.heap.size w w' := by
  go_enter Tryz.func106, Tryz.ntmps106
  go_wp2_with fail
  refine (isLetter_any l[0] _).mono ?_
  rintro e w' ⟨rfl, rfl⟩
  rw [HL.out]
  go_wp2_with fail
  refine (isDigit_any l[0] _).mono ?_
  rintro e w' ⟨rfl, rfl⟩
  rw [HD.out]
  go_wp2
  exact bodyPost_ret (v := gotV (0, 0, [], 0, false)) (by simp [results, Tryz.results106, go_sem]) rfl ⟨rfl, (Below.refl _ _).alloc (Nat.le_refl _) _⟩


theorem read_any (l : List UInt8) (hl : l.length ≤ 1048576) (hne : l ≠ []) (w : World) (hR : Rng w) :
    Calls Tryz.prog 106 #[.string ⟨l.toArray⟩] w fun e w' => e = .returned (gotV (readL l)) ∧ Below w.heap.size w w' := by
  cases l with
  | nil => exact absurd rfl hne
  | cons c r =>
    have h0 : 0 < (c :: r).length := by simp
    unfold readL
    dsimp only
    by_cases h10 : c.toNat = 10
    · rw [if_pos h10]
      exact read_end (c :: r) hl h0 w (by show ((c.toNat : Int) == 10) = true; simp; omega)
    · rw [if_neg h10]
      have h10' : (((c :: r)[0].toNat : Int) == 10) = false := by show ((c.toNat : Int) == 10) = false; simp; omega
      cases hL : letterB c with
      | true =>
        rw [if_pos rfl]
        exact read_word (c :: r) hl h0 w h10' hL _ rfl
      | false =>
        rw [if_neg (by simp)]
        by_cases h45 : c.toNat = 45
        · rw [if_pos h45]
          have h45' : (((c :: r)[0].toNat : Int) == 45) = true := by show ((c.toNat : Int) == 45) = true; simp; omega
          by_cases hs : spanL digitB r = 0
          · rw [if_pos hs]
            exact read_minus0 (c :: r) hl h0 w h10' hL h45' (by rw [List.tail_cons, hs]; rfl)
          · rw [if_neg hs]
            exact read_minus (c :: r) hl h0 w h10' hL h45' (by rw [List.tail_cons]; simp; omega) _ rfl (fun w hR => number_any c r (Or.inr ⟨h45, hs⟩) hl w hR) hR
        · rw [if_neg h45]
          have h45' : (((c :: r)[0].toNat : Int) == 45) = false := by show ((c.toNat : Int) == 45) = false; simp; omega
          cases hD : digitB c with
          | true =>
            rw [if_pos rfl]
            exact read_num (c :: r) hl h0 w h10' hL h45' hD _ rfl (fun w hR => number_any c r (Or.inl hD) hl w hR) hR
          | false =>
            rw [if_neg (by simp)]
            exact read_none (c :: r) hl h0 w h10' hL h45' hD
end Go.Proofs.YtpkjhlcolgoknaaGreatDoor.Tok

namespace Go.Proofs.YtpkjhlcolgoknaaGreatDoor.Tok
set_option linter.unusedVariables false
set_option maxRecDepth 100000
open Go.RowKit Go.Shelf
attribute [local go_sem] bget bdrop btake
/-- What 'Next' answers. -/
abbrev nextV (r : NextR) : Value := .tuple #[tokV r.1.1 r.1.2.1 r.1.2.2.1 r.1.2.2.2.1 r.1.2.2.2.2, .int .i64 r.2.1, .agg #[.int .i64 r.2.2.1, .int .i64 r.2.2.2.1], .int .i64 r.2.2.2.2]

set_option maxHeartbeats 1000000 in
theorem next_arg (l : List UInt8) (hl : l.length ≤ 1048576) (a : Int) (ha : a < 0 ∨ (l.length : Int) < a) (li co : Int) (w : World) :
    Calls Tryz.prog 73 #[.string ⟨l.toArray⟩, .int .i64 a, .agg #[.int .i64 li, .int .i64 co]] w fun e w' => e = .returned (.tuple #[tokV 0 0 0 0 [], .int .i64 a, .agg #[.int .i64 li, .int .i64 co], .int .i64 1]) ∧ Below w.heap.size w w' := by
  by_cases h : a < 0
  · clear ha
    go_enter Tryz.func73, Tryz.ntmps73
    go_wp2_with fail
    go_region
    go_wp2_with fail
    refine bodyPost_ret (v := .tuple #[tokV 0 0 0 0 [], .int .i64 a, .agg #[.int .i64 li, .int .i64 co], .int .i64 1]) (by simp [results, Tryz.results73, go_sem]) rfl ⟨rfl, ?_⟩
    exact ((((Below.refl _ w).alloc (Nat.le_refl _) _).alloc (by simp) _).alloc (by simp; omega) _).drew
  · have h2 : (l.length : Int) < a := by omega
    clear ha
    go_enter Tryz.func73, Tryz.ntmps73
    go_wp2_with fail
    go_region
    go_wp2_with fail
    refine bodyPost_ret (v := .tuple #[tokV 0 0 0 0 [], .int .i64 a, .agg #[.int .i64 li, .int .i64 co], .int .i64 1]) (by simp [results, Tryz.results73, go_sem]) rfl ⟨rfl, ?_⟩
    exact ((((Below.refl _ w).alloc (Nat.le_refl _) _).alloc (by simp) _).alloc (by simp; omega) _).drew
set_option maxHeartbeats 1000000 in
theorem next_tok (l : List UInt8) (hl : l.length ≤ 1048576) (a : Nat) (ha : a ≤ l.length) (li co : Int) (hli : 0 ≤ li) (hli2 : li ≤ 1099511627776) (hco : 0 ≤ co) (hco2 : co ≤ 1099511627776) (w : World)
    (k : Nat) (HK : Hid (unsaidL (l.drop a) = k)) (hak : a + k ≤ l.length) (hk : a + k < l.length) (hR : Rng w) (gk gn : Int) (gt : List UInt8) (gs : Nat) (hgs : gs ≤ l.length) (hg3 : (gk == 3) = false) (HG : Hid (readL (l.drop (a + k)) = (gk, gn, gt, gs, true))) :
    Calls Tryz.prog 73 #[.string ⟨l.toArray⟩, .int .i64 a, .agg #[.int .i64 li, .int .i64 co]] w fun e w' => e = .returned (.tuple #[tokV gk gn li (co + k) gt, .int .i64 (a + k + gs), .agg #[.int .i64 li, .int .i64 (co + k + gs)], .int .i64 0]) ∧ Below w.heap.size w w' := by
  have hk2 : (((a : Int) + k) == (l.length : Int)) = false := by simp; omega
  have ha1 : ¬ ((a : Int) < 0) := by omega
  have ha2 : ¬ ((l.length : Int) < (a : Int)) := by omega
  go_enter Tryz.func73, Tryz.ntmps73
  go_wp2_with fail
  refine (unsaid_any (l.drop a) (by simp; omega) _).mono ?_
  rintro e w' ⟨rfl, rfl⟩
  rw [HK.out]
  go_wp2_with fail
  refine (read_any (l.drop (a + k)) (by simp; omega) (by intro h; have := congrArg List.length h; simp at this; omega) _ (by exact hR.next ((((Below.refl _ w).alloc (Nat.le_refl _) _).alloc (by simp) _).alloc (by simp; omega) _))).mono ?_
  rintro e w1 ⟨rfl, hb⟩
  obtain ⟨hc, hf⟩ := bcell hb
  have hz2 : w.heap.size + 1 + 1 < w1.heap.size := by have := hb.size; simp at this; omega
  have hz1 : w.heap.size + 1 < w1.heap.size := by omega
  have hz0 : w.heap.size < w1.heap.size := by omega
  have hB1 : Below w.heap.size w w1 := ((((Below.refl _ w).alloc (Nat.le_refl _) _).alloc (by simp) _).alloc (by simp; omega) _).trans (hb.mono (by simp; omega))
  simp at hc hf
  clear hb
  rw [HG.out]
  go_wp2_with fail
  go_region
  go_wp2_with fail
  go_region
  go_wp2_with fail
  refine bodyPost_ret (v := .tuple #[tokV gk gn li (co + ((a : Int) + k - a)) gt, .int .i64 (a + k + gs), .agg #[.int .i64 li, .int .i64 (co + ((a : Int) + k - a) + gs)], .int .i64 0]) (by simp [results, Tryz.results73, go_sem, hc, hz0, hz1, hz2]) rfl ⟨by rw [show co + ((a : Int) + k - a) + gs = co + k + gs by omega, show co + ((a : Int) + k - a) = co + k by omega], ?_⟩
  refine Below.drew ?_
  refine Below.drew ?_
  refine Below.alloc ?_ (by first | (simp; done) | (simp; omega)) _
  refine Below.alloc ?_ (by first | (simp; done) | (simp; omega)) _
  iterate 7 refine Below.setCell ?_ (by first | (simp; done) | (simp; omega)) _
  exact hB1

set_option maxHeartbeats 1000000 in
theorem next_end (l : List UInt8) (hl : l.length ≤ 1048576) (a : Nat) (ha : a ≤ l.length) (li co : Int) (hli : 0 ≤ li) (hli2 : li ≤ 1099511627776) (hco : 0 ≤ co) (hco2 : co ≤ 1099511627776) (w : World)
    (k : Nat) (HK : Hid (unsaidL (l.drop a) = k)) (hak : a + k ≤ l.length) (hk : a + k < l.length) (hR : Rng w) (gk gn : Int) (gt : List UInt8) (gs : Nat) (hgs : gs ≤ l.length) (hg3 : (gk == 3) = true) (HG : Hid (readL (l.drop (a + k)) = (gk, gn, gt, gs, true))) :
    Calls Tryz.prog 73 #[.string ⟨l.toArray⟩, .int .i64 a, .agg #[.int .i64 li, .int .i64 co]] w fun e w' => e = .returned (.tuple #[tokV gk gn li (co + k) gt, .int .i64 (a + k + gs), .agg #[.int .i64 (li + 1), .int .i64 1], .int .i64 0]) ∧ Below w.heap.size w w' := by
  have hk2 : (((a : Int) + k) == (l.length : Int)) = false := by simp; omega
  have ha1 : ¬ ((a : Int) < 0) := by omega
  have ha2 : ¬ ((l.length : Int) < (a : Int)) := by omega
  go_enter Tryz.func73, Tryz.ntmps73
  go_wp2_with fail
  refine (unsaid_any (l.drop a) (by simp; omega) _).mono ?_
  rintro e w' ⟨rfl, rfl⟩
  rw [HK.out]
  go_wp2_with fail
  refine (read_any (l.drop (a + k)) (by simp; omega) (by intro h; have := congrArg List.length h; simp at this; omega) _ (by exact hR.next ((((Below.refl _ w).alloc (Nat.le_refl _) _).alloc (by simp) _).alloc (by simp; omega) _))).mono ?_
  rintro e w1 ⟨rfl, hb⟩
  obtain ⟨hc, hf⟩ := bcell hb
  have hz2 : w.heap.size + 1 + 1 < w1.heap.size := by have := hb.size; simp at this; omega
  have hz1 : w.heap.size + 1 < w1.heap.size := by omega
  have hz0 : w.heap.size < w1.heap.size := by omega
  have hB1 : Below w.heap.size w w1 := ((((Below.refl _ w).alloc (Nat.le_refl _) _).alloc (by simp) _).alloc (by simp; omega) _).trans (hb.mono (by simp; omega))
  simp at hc hf
  clear hb
  rw [HG.out]
  go_wp2_with fail
  go_region
  go_wp2_with fail
  go_region
  go_wp2_with fail
  refine bodyPost_ret (v := .tuple #[tokV gk gn li (co + ((a : Int) + k - a)) gt, .int .i64 (a + k + gs), .agg #[.int .i64 (li + 1), .int .i64 1], .int .i64 0]) (by simp [results, Tryz.results73, go_sem, hc, hz0, hz1, hz2]) rfl ⟨by rw [show co + ((a : Int) + k - a) = co + k by omega], ?_⟩
  refine Below.drew ?_
  refine Below.drew ?_
  refine Below.alloc ?_ (by first | (simp; done) | (simp; omega)) _
  refine Below.alloc ?_ (by first | (simp; done) | (simp; omega)) _
  iterate 7 refine Below.setCell ?_ (by first | (simp; done) | (simp; omega)) _
  exact hB1

set_option maxHeartbeats 1000000 in
theorem next_none (l : List UInt8) (hl : l.length ≤ 1048576) (a : Nat) (ha : a ≤ l.length) (li co : Int) (hli : 0 ≤ li) (hli2 : li ≤ 1099511627776) (hco : 0 ≤ co) (hco2 : co ≤ 1099511627776) (w : World)
    (k : Nat) (HK : Hid (unsaidL (l.drop a) = k)) (hak : a + k ≤ l.length) (hk : a + k = l.length) :
    Calls Tryz.prog 73 #[.string ⟨l.toArray⟩, .int .i64 a, .agg #[.int .i64 li, .int .i64 co]] w fun e w' => e = .returned (.tuple #[tokV 0 0 0 0 [], .int .i64 (a + k), .agg #[.int .i64 li, .int .i64 (co + k)], .int .i64 4]) ∧ Below w.heap.size w w' := by
  have hk2 : (((a : Int) + k) == (l.length : Int)) = true := by simp; omega
  have HKK : Hid (a + k = l.length) := hk
  clear hk
  have ha1 : ¬ ((a : Int) < 0) := by omega
  have ha2 : ¬ ((l.length : Int) < (a : Int)) := by omega
  go_enter Tryz.func73, Tryz.ntmps73
  go_wp2_with fail
  refine (unsaid_any (l.drop a) (by simp; omega) _).mono ?_
  rintro e w' ⟨rfl, rfl⟩
  rw [HK.out]
  go_wp2_with fail
  go_region
  go_wp2
  refine bodyPost_ret (v := .tuple #[tokV 0 0 0 0 [], .int .i64 (a + k), .agg #[.int .i64 li, .int .i64 (co + ((a : Int) + k - a))], .int .i64 4]) (by simp [results, Tryz.results73, go_sem]) rfl ⟨by rw [show co + ((a : Int) + k - a) = co + k by omega], ?_⟩
  exact ((((Below.refl _ w).alloc (Nat.le_refl _) _).alloc (by simp) _).alloc (by simp; omega) _).drew

set_option maxHeartbeats 1000000 in
theorem next_text (l : List UInt8) (hl : l.length ≤ 1048576) (a : Nat) (ha : a ≤ l.length) (li co : Int) (hli : 0 ≤ li) (hli2 : li ≤ 1099511627776) (hco : 0 ≤ co) (hco2 : co ≤ 1099511627776) (w : World)
    (k : Nat) (HK : Hid (unsaidL (l.drop a) = k)) (hak : a + k ≤ l.length) (hk : a + k < l.length) (hR : Rng w) (gk gn : Int) (gt : List UInt8) (gs : Nat) (hgs : gs ≤ l.length) (HG : Hid (readL (l.drop (a + k)) = (gk, gn, gt, gs, false))) :
    Calls Tryz.prog 73 #[.string ⟨l.toArray⟩, .int .i64 a, .agg #[.int .i64 li, .int .i64 co]] w fun e w' => e = .returned (.tuple #[tokV 0 0 0 0 [], .int .i64 a, .agg #[.int .i64 li, .int .i64 (co + k + gs)], .int .i64 2]) ∧ Below w.heap.size w w' := by
  have hk2 : (((a : Int) + k) == (l.length : Int)) = false := by simp; omega
  have ha1 : ¬ ((a : Int) < 0) := by omega
  have ha2 : ¬ ((l.length : Int) < (a : Int)) := by omega
  go_enter Tryz.func73, Tryz.ntmps73
  go_wp2_with fail
  refine (unsaid_any (l.drop a) (by simp; omega) _).mono ?_
  rintro e w' ⟨rfl, rfl⟩
  rw [HK.out]
  go_wp2_with fail
  refine (read_any (l.drop (a + k)) (by simp; omega) (by intro h; have := congrArg List.length h; simp at this; omega) _ (by exact hR.next ((((Below.refl _ w).alloc (Nat.le_refl _) _).alloc (by simp) _).alloc (by simp; omega) _))).mono ?_
  rintro e w1 ⟨rfl, hb⟩
  obtain ⟨hc, hf⟩ := bcell hb
  have hz2 : w.heap.size + 1 + 1 < w1.heap.size := by have := hb.size; simp at this; omega
  have hz1 : w.heap.size + 1 < w1.heap.size := by omega
  have hz0 : w.heap.size < w1.heap.size := by omega
  have hB1 : Below w.heap.size w w1 := ((((Below.refl _ w).alloc (Nat.le_refl _) _).alloc (by simp) _).alloc (by simp; omega) _).trans (hb.mono (by simp; omega))
  simp at hc hf
  clear hb
  rw [HG.out]
  go_wp2_with fail
  go_region
  go_wp2_with fail
  refine bodyPost_ret (v := .tuple #[tokV 0 0 0 0 [], .int .i64 a, .agg #[.int .i64 li, .int .i64 (co + ((a : Int) + k - a) + gs)], .int .i64 2]) (by simp [results, Tryz.results73, go_sem, hc, hz0, hz1, hz2]) rfl ⟨by rw [show co + ((a : Int) + k - a) + gs = co + k + gs by omega], ?_⟩
  refine Below.drew ?_
  refine Below.alloc ?_ (by first | (simp; done) | (simp; omega)) _
  refine Below.alloc ?_ (by first | (simp; done) | (simp; omega)) _
  iterate 7 refine Below.setCell ?_ (by first | (simp; done) | (simp; omega)) _
  exact hB1


theorem next_any (l : List UInt8) (hl : l.length ≤ 1048576) (a : Nat) (ha : a ≤ l.length) (li co : Int) (hli : 0 ≤ li) (hli2 : li ≤ 1099511627776) (hco : 0 ≤ co) (hco2 : co ≤ 1099511627776) (w : World) (hR : Rng w) :
    Calls Tryz.prog 73 #[.string ⟨l.toArray⟩, .int .i64 a, .agg #[.int .i64 li, .int .i64 co]] w fun e w' => e = .returned (nextV (nextL l a li co)) ∧ Below w.heap.size w w' := by
  have hk := unsaidL_le (l.drop a)
  rw [List.length_drop] at hk
  unfold nextL
  generalize hK : unsaidL (l.drop a) = k at *
  by_cases h : a + k = l.length
  · rw [if_pos h]
    exact next_none l hl a ha li co hli hli2 hco hco2 w k hK (by omega) h
  · rw [if_neg h]
    have hs := readL_le (l.drop (a + k))
    rw [List.length_drop] at hs
    generalize hG : readL (l.drop (a + k)) = g at *
    obtain ⟨gk, gn, gt, gs, ok⟩ := g
    cases ok with
    | false => exact next_text l hl a ha li co hli hli2 hco hco2 w k hK (by omega) (by omega) hR gk gn gt gs (by simp only at hs; omega) hG
    | true =>
      by_cases h3 : gk = 3
      · dsimp only
        rw [if_pos h3, if_pos h3]
        exact next_end l hl a ha li co hli hli2 hco hco2 w k hK (by omega) (by omega) hR gk gn gt gs (by simp only at hs; omega) (by simp [h3]) hG
      · dsimp only
        rw [if_neg h3, if_neg h3]
        exact next_tok l hl a ha li co hli hli2 hco hco2 w k hK (by omega) (by omega) hR gk gn gt gs (by simp only at hs; omega) (by simp [h3]) hG
end Go.Proofs.YtpkjhlcolgoknaaGreatDoor.Tok
