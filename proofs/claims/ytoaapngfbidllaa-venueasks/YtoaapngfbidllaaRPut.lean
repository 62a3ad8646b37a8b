/- parterreref2.put by its contract: a number into a rising row, once. -/
import Derived.Test.YtoaapngfbidllaaRPutN
import Derived.Test.YtoaapngfbidllaaRPutS
namespace Go.Proofs.Ytoaapngfbidllaa
set_option linter.unusedVariables false
open Go.RowKit Go.Shelf

/-! Into a row, at a place. -/
theorem ins_pairwise {α : Type} {R : α → α → Prop} {l : List α} (z : α) (k : Nat) (hr : l.Pairwise R) (h1 : ∀ a ∈ l.take k, R a z) (h2 : ∀ b ∈ l.drop k, R z b) : (l.take k ++ [z] ++ l.drop k).Pairwise R := by
  have hs : (l.take k ++ l.drop k).Pairwise R := by rw [List.take_append_drop]; exact hr
  rw [List.pairwise_append] at hs
  rw [List.pairwise_append]
  refine ⟨?_, hs.2.1, ?_⟩
  · rw [List.pairwise_append]
    refine ⟨hs.1, List.pairwise_singleton _ _, fun a ha b hb => ?_⟩
    rw [List.mem_singleton.1 hb]; exact h1 a ha
  · intro a ha b hb
    rcases List.mem_append.1 ha with ha | ha
    · exact hs.2.2 a ha b hb
    · rw [List.mem_singleton.1 ha]; exact h2 b hb
theorem ins_perm {α : Type} (l : List α) (z : α) (k : Nat) : (l.take k ++ [z] ++ l.drop k).Perm (z :: l) := by
  have : (l.take k ++ [z] ++ l.drop k).Perm ([z] ++ l.take k ++ l.drop k) := (List.perm_append_comm).append_right _
  refine this.trans ?_
  rw [List.append_assoc, List.take_append_drop]; exact List.Perm.refl _
theorem ins_mem {α : Type} (l : List α) (z : α) (k : Nat) (x : α) : x ∈ l.take k ++ [z] ++ l.drop k ↔ x ∈ l ∨ x = z := by
  rw [(ins_perm l z k).mem_iff, List.mem_cons, or_comm]
theorem ins_len {α : Type} (l : List α) (z : α) (k : Nat) : (l.take k ++ [z] ++ l.drop k).length = l.length + 1 := by
  rw [(ins_perm l z k).length_eq, List.length_cons]
theorem ins_flat {α : Type} (enc : α → List Value) (l : List α) (z : α) (k : Nat) : (l.take k).flatMap enc ++ enc z ++ (l.drop k).flatMap enc = (l.take k ++ [z] ++ l.drop k).flatMap enc := by
  simp [List.flatMap_append]
/-- The slice 'v' is nil, or these, in a block behind 'g'. -/
def SlN {α : Type} (k : Nat) (enc : α → List Value) (w : World) (g : Nat) (v : Value) (l : List α) : Prop :=
  (v = .slice none 0 0 ∧ l = []) ∨ ∃ b off cap, v = .slice (some ⟨b, off, none⟩) l.length cap ∧ 0 < l.length ∧ l.length ≤ cap ∧ cap ≤ maxLen ∧ g < b ∧ Cells k enc w b off l
theorem SlN.sl {α : Type} {k : Nat} {enc : α → List Value} {w : World} {g : Nat} {v : Value} {l : List α} (h : SlN k enc w g v l) : Sl k enc w v l := by
  rcases h with ⟨h, h'⟩ | ⟨b, off, cap, h1, _, h2, h3, _, h4⟩
  · exact .inl ⟨⟨_, _, h⟩, h'⟩
  · exact .inr ⟨b, off, cap, h1, h2, h3, h4⟩
theorem SlN.next {α : Type} {k : Nat} {enc : α → List Value} {w w' : World} {g : Nat} {v : Value} {l : List α} (h : SlN k enc w g v l) (hb : Below w.heap.size w w') : SlN k enc w' g v l := by
  rcases h with h | ⟨b, off, cap, h1, h0, h2, h3, hne, h4⟩
  · exact .inl h
  · exact .inr ⟨b, off, cap, h1, h0, h2, h3, hne, h4.next hb⟩
theorem SlN.set {α : Type} {k : Nat} {enc : α → List Value} {w : World} {g : Nat} {v : Value} {l : List α} (h : SlN k enc w g v l) (B : Nat) (hB : B ≤ g) (i : Nat) (u : Value) : SlN k enc (w.setCell ⟨B, i, none⟩ u) g v l := by
  rcases h with h | ⟨b, off, cap, h1, h0, h2, h3, hne, h4⟩
  · exact .inl h
  · refine .inr ⟨b, off, cap, h1, h0, h2, h3, hne, by simpa using h4.1, fun i hi j u hu => ?_⟩
    rw [World.cell?_setCell_other _ _ _ _ (by intro h'; have := congrArg Addr.block h'; simp at this; omega)]
    exact h4.2 i hi j u hu
theorem row_slN {α : Type} {enc : α → List Value} {k : Nat} (hk : ∀ x, (enc x).length = k) {w : World} {base g : Nat} {e : TypeId} {v : Value} {l : List α} (h : w.ownsRow base e k v l.length (l.flatMap enc)) (h0 : 0 < l.length) (hg : g < base) : SlN k enc w g v l := by
  rcases row_sl hk h with ⟨_, hn⟩ | ⟨b, off, cap, h1, h2, h3, h4⟩
  · rw [hn] at h0; simp at h0
  · refine .inr ⟨b, off, cap, h1, h0, h2, h3, ?_, h4⟩
    rcases h.2 with ⟨hv, hn⟩ | ⟨g', cap', cur, hv, hb, _⟩
    · omega
    · rw [h1] at hv; injection hv with hv; injection hv with hv; injection hv with hv; omega

theorem SlN.set5 {α : Type} {k : Nat} {enc : α → List Value} {w : World} {g : Nat} {v : Value} {l : List α} (h : SlN k enc w g v l) (B : Nat) (hB : B ≤ g) (u0 u1 u2 u3 u4 : Value) :
    SlN k enc (((((w.setCell ⟨B, 0, none⟩ u0).setCell ⟨B, 1, none⟩ u1).setCell ⟨B, 2, none⟩ u2).setCell ⟨B, 3, none⟩ u3).setCell ⟨B, 4, none⟩ u4) g v l :=
  ((((h.set B hB 0 u0).set B hB 1 u1).set B hB 2 u2).set B hB 3 u3).set B hB 4 u4
set_option maxHeartbeats 2000000 in
theorem put_nil (z : Int) (g : Nat) (w : World) (hg : g < w.heap.size) :
    Calls Try.prog 25 #[.slice none 0 0, .int .i64 z] w fun e w' => ∃ v', e = .returned v' ∧ SlN 1 intC w' g v' [z] ∧ Below w.heap.size w w' := by
  go_enter Try.func25, Try.ntmps25
  go_wp2_with fail
  go_loop [5] (fun i => i = .int .i64 0) (fun _ => 0)
  case atStart => rfl
  case round =>
    subst hrel
    go_wp2_with fail
    refine region25_6n _ ?_ z w _ _ _ _ _ _ _ _ _ _ _ _ _ _ _ _ _ _ _ _ _ _ _ _ _ _ _ _ _ _ _ _ _ _ _ _ _ _ _ _ _ _ ?_
    · intro c a a' w h; obtain ⟨_, h, _⟩ := h.2; cases h
    intro W' e0 g7 a8 c8 hb hown
    go_wp2_with fail
    go_ret
    exact ⟨_, rfl, row_slN (l := [z]) intC_len (by simpa using hown) (by simp) hg, hb⟩
set_option maxHeartbeats 4000000 in
theorem put_some (l : List Int) (hr : l.Pairwise (fun a b => a < b)) (h0 : 0 < l.length) (hl : l.length ≤ 5000) (z : Int) (b off c : Nat) (hlc : l.length ≤ c) (hcm : c ≤ maxLen) (g : Nat) (w : World) (hg : g < w.heap.size) (hbg : g < b) (hC : Cells 1 intC w b off l) :
    Calls Try.prog 25 #[.slice (some ⟨b, off, none⟩) l.length c, .int .i64 z] w fun e w' => ∃ v' l', e = .returned v' ∧ SlN 1 intC w' g v' l' ∧ l'.Pairwise (fun a b => a < b) ∧ (∀ x, x ∈ l' ↔ x ∈ l ∨ x = z) ∧ l'.length ≤ l.length + 1 ∧ Below w.heap.size w w' := by
  have HC : Hid (Cells 1 intC w b off l) := hC
  have hbl := hC.1
  have HR : Hid (l.Pairwise (fun a b => a < b)) := hr
  have hcm' : c ≤ 9223372036854775807 := by unfold maxLen at hcm; omega
  clear hC hr
  have last : ∀ k, k ≤ l.length → (∀ j, k ≤ j → (hj : j < l.length) → z < l[j]) → (∀ (h : 0 < k) (hk : k - 1 < l.length), l[k - 1] < z) → ∃ l', l' = l.take k ++ [z] ++ l.drop k ∧ l'.Pairwise (fun a b => a < b) ∧ (∀ x, x ∈ l' ↔ x ∈ l ∨ x = z) ∧ l'.length = l.length + 1 := by
    intro k hk h2 h1
    refine ⟨_, rfl, ins_pairwise z k HR.out ?_ ?_, ins_mem l z k, ins_len l z k⟩
    · intro a ha
      obtain ⟨i, hi, rfl⟩ := List.getElem_of_mem ha
      rw [List.length_take] at hi
      rw [List.getElem_take]
      have hk1 : k - 1 < l.length := by omega
      have := h1 (by omega) hk1
      rcases Nat.lt_or_ge i (k - 1) with h | h
      · have h3 := (List.pairwise_iff_getElem.1 HR.out) i (k - 1) (by omega) hk1 h
        omega
      · have e : i = k - 1 := by omega
        subst e; exact this
    · intro a ha
      obtain ⟨i, hi, rfl⟩ := List.getElem_of_mem ha
      rw [List.length_drop] at hi
      rw [List.getElem_drop]
      exact h2 (k + i) (by omega) (by omega)
  have LAST : Hid (∀ k, k ≤ l.length → (∀ j, k ≤ j → (hj : j < l.length) → z < l[j]) → (∀ (h : 0 < k) (hk : k - 1 < l.length), l[k - 1] < z) → ∃ l', l' = l.take k ++ [z] ++ l.drop k ∧ l'.Pairwise (fun a b => a < b) ∧ (∀ x, x ∈ l' ↔ x ∈ l ∨ x = z) ∧ l'.length = l.length + 1) := last
  clear last
  go_enter Try.func25, Try.ntmps25
  go_wp2_with fail
  go_loop [5] (fun i => ∃ k : Nat, k ≤ l.length ∧ i = .int .i64 k ∧ Hid (∀ j, k ≤ j → (hj : j < l.length) → z < l[j])) (fun i => (intOf i).toNat)
  case atStart => exact ⟨l.length, Nat.le_refl _, rfl, by intro j h hj; omega⟩
  case round =>
    obtain ⟨k, hk, rfl, HA⟩ := hrel
    rcases Nat.eq_zero_or_pos k with hk0 | hk0
    · subst hk0
      obtain ⟨l', hl', q1, q2, q3⟩ := LAST.out 0 (Nat.zero_le _) HA.out (by intro h; omega)
      obtain ⟨A, hA⟩ : ∃ A : Addr, (if c = 0 then some (⟨b, off, none⟩ : Addr) else some ⟨b, off + 0, none⟩) = some A := by
        by_cases h : c = 0
        · exact ⟨_, if_pos h⟩
        · exact ⟨_, if_neg h⟩
      have HL' : Hid (l' = l.take 0 ++ [z] ++ l.drop 0) := hl'
      have HQ1 : Hid (l'.Pairwise (fun a b => a < b)) := q1
      have HQ3 : Hid (l'.length = l.length + 1) := q3
      have HQ2 : Hid (∀ x, x ∈ l' ↔ x ∈ l ∨ x = z) := q2
      clear hl' q1 q2 q3
      go_wp2_with fail
      refine region25_6s _ ?_ l b off c 0 (Nat.zero_le _) hlc hl hcm' A hA z w HC.out _ _ _ _ _ _ _ _ _ _ _ _ _ _ _ _ _ _ _ _ _ _ _ _ _ _ _ _ _ _ _ _ _ _ _ _ _ _ _ _ _ _ ?_
      · intro c a a' w h; obtain ⟨_, _, h, _⟩ := h.2; cases h
      intro W' e0 a5 c5 g7 a8 c8 a13 c13 hb hown
      go_wp2_with fail
      go_ret
      refine ⟨_, l', rfl, row_slN intC_len (by rw [HQ3.out, HL'.out, ← ins_flat]; exact hown) (by rw [HQ3.out]; omega) hg, HQ1.out, HQ2.out, by rw [HQ3.out]; exact Nat.le_refl _, hb⟩
    · have hkz : (0 : Int) < (k : Int) := by omega
      have hlt1 : k - 1 < l.length := by omega
      have c1 := HC.out.int (k - 1) hlt1
      have hkm : ((k : Int) - 1) = ((k - 1 : Nat) : Int) := by omega
      have hk1 : ((k - 1 : Nat) : Int) < (l.length : Int) := by omega
      generalize hy : l[k - 1] = y at c1
      have HY : Hid (l[k - 1] = y) := hy
      clear hy
      by_cases h1 : z < y
      · go_wp2_with fail
        go_round
        case rel =>
          refine ⟨k - 1, by omega, rfl, ?_⟩
          show ∀ j, k - 1 ≤ j → (hj : j < l.length) → z < l[j]
          intro j h hj
          rcases Nat.lt_or_ge j k with h' | h'
          · have e : j = k - 1 := by omega
            subst e; rw [HY.out]; exact h1
          · exact HA.out j h' hj
        case measure => simp [intOf]; omega
      · by_cases h2 : y = z
        · have h2' : (y == z) = true := by simpa using h2
          have HE : Hid (y = z) := h2
          clear h2
          go_wp2_with fail
          go_ret
          refine ⟨_, rfl, l, .inr ⟨b, off, c, rfl, h0, hlc, hcm, hbg, HC.out⟩, HR.out, fun x => ⟨.inl, fun h => ?_⟩, by omega, Below.refl _ w⟩
          rcases h with h | h
          · exact h
          · rw [h, ← HE.out, ← HY.out]; exact List.getElem_mem hlt1
        · have h2' : (y == z) = false := by simpa using h2
          obtain ⟨l', hl', q1, q2, q3⟩ := LAST.out k hk HA.out (by intro h hk; rw [HY.out]; omega)
          obtain ⟨A, hA⟩ : ∃ A : Addr, (if c = k then some (⟨b, off, none⟩ : Addr) else some ⟨b, off + k, none⟩) = some A := by
            by_cases h : c = k
            · exact ⟨_, if_pos h⟩
            · exact ⟨_, if_neg h⟩
          have HL' : Hid (l' = l.take k ++ [z] ++ l.drop k) := hl'
          have HQ1 : Hid (l'.Pairwise (fun a b => a < b)) := q1
          have HQ3 : Hid (l'.length = l.length + 1) := q3
          have HQ2 : Hid (∀ x, x ∈ l' ↔ x ∈ l ∨ x = z) := q2
          clear hl' q1 q2 q3 h2
          go_wp2_with fail
          refine region25_6s _ ?_ l b off c k hk hlc hl hcm' A hA z w HC.out _ _ _ _ _ _ _ _ _ _ _ _ _ _ _ _ _ _ _ _ _ _ _ _ _ _ _ _ _ _ _ _ _ _ _ _ _ _ _ _ _ _ ?_
          · intro c a a' w h; obtain ⟨_, _, h, _⟩ := h.2; cases h
          intro W' e0 a5 c5 g7 a8 c8 a13 c13 hb hown
          go_wp2_with fail
          go_ret
          refine ⟨_, l', rfl, row_slN intC_len (by rw [HQ3.out, HL'.out, ← ins_flat]; exact hown) (by rw [HQ3.out]; omega) hg, HQ1.out, HQ2.out, by rw [HQ3.out]; exact Nat.le_refl _, hb⟩
theorem put_any (l : List Int) (hr : l.Pairwise (fun a b => a < b)) (hl : l.length ≤ 5000) (z : Int) (v : Value) (g : Nat) (w : World) (hg : g < w.heap.size) (hS : SlN 1 intC w g v l) :
    Calls Try.prog 25 #[v, .int .i64 z] w fun e w' => ∃ v' l', e = .returned v' ∧ SlN 1 intC w' g v' l' ∧ l'.Pairwise (fun a b => a < b) ∧ (∀ x, x ∈ l' ↔ x ∈ l ∨ x = z) ∧ l'.length ≤ l.length + 1 ∧ Below w.heap.size w w' := by
  rcases hS with ⟨rfl, rfl⟩ | ⟨b, off, c, rfl, h0, h1, h2, h3, hC⟩
  · exact (put_nil z g w hg).mono fun e w' ⟨v', he, hs, hb⟩ => ⟨v', [z], he, hs, List.pairwise_singleton _ _, fun x => by simp, by simp, hb⟩
  · exact put_some l hr h0 hl z b off c h1 h2 g w hg h3 hC
end Go.Proofs.Ytoaapngfbidllaa
