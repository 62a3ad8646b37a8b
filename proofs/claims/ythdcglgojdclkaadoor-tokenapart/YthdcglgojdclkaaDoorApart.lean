/- TokenApart's walk: it answers true whatever the words and what parts them. -/
import Derived.Test.YthdcglgojdclkaaDoorApartP
import Derived.Test.YthdcglgojdclkaaDoorLines
namespace Go.Proofs.YthdcglgojdclkaaDoor
open Go.RowKit Go.Shelf
set_option linter.unusedVariables false

/-- A row of words in a block. -/
def Words (w : World) (b n : Nat) : Prop := b < w.heap.size ∧ ∀ m, m < n → ∃ (P : List UInt8) (k v : Int), w.cell? ⟨b, m, none⟩ = some (.string ⟨P.toArray⟩) ∧ Good P k v
theorem Words.next {w w' : World} {b n : Nat} (h : Words w b n) (hb : Below w.heap.size w w') : Words w' b n :=
  ⟨Nat.lt_of_lt_of_le h.1 hb.size, fun m hm => by
    obtain ⟨P, k, v, h1, h2⟩ := h.2 m hm
    exact ⟨P, k, v, by rw [hb.cell (p := ⟨b, m, none⟩) h.1]; exact h1, h2⟩⟩
theorem Words.fresh (w : World) (cs : Array Value) (t : TypeId) (n : Nat) (h : ∀ m, m < n → ∃ (P : List UInt8) (k v : Int), cs[m]? = some (.string ⟨P.toArray⟩) ∧ Good P k v) : Words (w.alloc (.cells cs t)) w.heap.size n :=
  ⟨by simp, fun m hm => by
    obtain ⟨P, k, v, h1, h2⟩ := h m hm
    exact ⟨P, k, v, by rw [World.cell?_alloc_at _ _ _ _ rfl]; exact h1, h2⟩⟩

/-- Two texts of the same words, each parted in its own way. -/
def Built (A B : List UInt8) : Prop := ∃ ia ib : List Item, A = ia.flatMap itemL ∧ B = ib.flatMap itemL ∧ (∀ it ∈ ia, GoodI it) ∧ (∀ it ∈ ib, GoodI it) ∧ ia.map keyI = ib.map keyI
theorem Built.nil : Built [] [] := ⟨[], [], rfl, rfl, by simp, by simp, rfl⟩
theorem Built.snoc {A B : List UInt8} (h : Built A B) {P : List UInt8} {k v : Int} (hP : Good P k v) (s : List UInt8) (hs : ∀ d ∈ s, blankB d = true) : Built (A ++ P ++ [32]) (B ++ s ++ P ++ [9]) := by
  obtain ⟨ia, ib, rfl, rfl, h3, h4, h5⟩ := h
  refine ⟨ia ++ [([], P, k, v, 32)], ib ++ [(s, P, k, v, 9)], by simp [itemL], by simp [itemL], ?_, ?_, by simp [h5, keyI]⟩
  · intro it hit
    rcases List.mem_append.1 hit with h | h
    · exact h3 it h
    · rw [List.mem_singleton.1 h]; exact ⟨by simp, hP, (by decide : blankB 32 = true)⟩
  · intro it hit
    rcases List.mem_append.1 hit with h | h
    · exact h4 it h
    · rw [List.mem_singleton.1 h]; exact ⟨hs, hP, (by decide : blankB 9 = true)⟩
/-- Their tokens are the same but for their places. -/
theorem Built.same {A B : List UInt8} (h : Built A B) : ∃ ta tb : List Tok, ∃ l1 c1 l2 c2, allOf A = (ta, l1, c1, 0) ∧ allOf (B ++ [35, 32, 97, 110, 100, 32, 109, 111, 114, 101, 32, 49, 97]) = (tb, l2, c2, 0) ∧ ta.map keyT = tb.map keyT := by
  obtain ⟨ia, ib, rfl, rfl, h3, h4, h5⟩ := h
  have e1 := items_read ia [] [] 1 1 h3 (by simp) quiet_nil
  have e2 := items_read ib [] [35, 32, 97, 110, 100, 32, 109, 111, 114, 101, 32, 49, 97] 1 1 h4 (by simp) (quiet_rem _ (by decide))
  rw [List.nil_append] at e1 e2
  rw [List.append_nil] at e1
  rw [allOf_P, allOf_P]
  generalize allP (ia.flatMap itemL) 1 1 = x at *
  generalize allP (ib.flatMap itemL ++ [35, 32, 97, 110, 100, 32, 109, 111, 114, 101, 32, 49, 97]) 1 1 = y at *
  obtain ⟨ta, l1, c1, k1⟩ := x
  obtain ⟨tb, l2, c2, k2⟩ := y
  simp only at e1 e2
  obtain ⟨e1, rfl⟩ := e1
  obtain ⟨e2, rfl⟩ := e2
  exact ⟨ta, tb, l1, c1, l2, c2, rfl, rfl, by rw [e1, e2, h5]⟩

set_option maxRecDepth 100000 in
set_option maxHeartbeats 2000000 in
theorem apart_any (ao : Option Addr) (len cap : Nat) (how : Int) (hlen : len ≤ 9223372036854775807) (w : World) (hR : Rng w) (hI : Ints w ao (min len 12)) :
    Calls Tryd.prog 7 #[.slice ao len cap, .int .i64 how] w fun e w' => e = .returned (.bool true) ∧ Below w.heap.size w w' := by
  have HI : Hid (Ints w ao (min len 12)) := hI
  clear hI
  go_enter Tryd.func7, Tryd.ntmps7
  go_wp2_with fail
  go_loopw [6, 7, 8] (fun s1 s2 x wr => ∃ (i : Nat) (A B : List UInt8), i ≤ len ∧ i ≤ 12 ∧ A.length ≤ i * 11 ∧ B.length ≤ i * 13 ∧ x = .int .i64 i ∧ s1 = .string ⟨A.toArray⟩ ∧ s2 = .string ⟨B.toArray⟩ ∧ Hid (Words wr w.heap.size 7) ∧ Hid (Built A B) ∧ Past w wr) (fun _ _ x _ => 12 - (intOf x).toNat)
  case atStart =>
    refine ⟨0, [], [], by omega, by omega, by simp, by simp, rfl, rfl, rfl, ?_, Built.nil, Past.alloc (Below.refl _ _) _⟩
    refine Words.fresh _ _ _ _ ?_
    intro m hm
    match m, hm with
    | 0, _ => exact ⟨[115, 101, 97, 116], 1, 0, rfl, good_word _ _ (by decide) (by decide)⟩
    | 1, _ => exact ⟨[53], 2, 5, rfl, good_num _ _ (by decide) (by decide) (Or.inl (by decide)) 5 (by kernel_rfl)⟩
    | 2, _ => exact ⟨[45, 51], 2, -3, rfl, good_num _ _ (by decide) (by decide) (Or.inr ⟨rfl, by simp⟩) (-3) (by kernel_rfl)⟩
    | 3, _ => exact ⟨[103, 97, 112], 1, 0, rfl, good_word _ _ (by decide) (by decide)⟩
    | 4, _ => exact ⟨[48], 2, 0, rfl, good_num _ _ (by decide) (by decide) (Or.inl (by decide)) 0 (by kernel_rfl)⟩
    | 5, _ => exact ⟨[107, 105, 108, 108], 1, 0, rfl, good_word _ _ (by decide) (by decide)⟩
    | 6, _ => exact ⟨[50, 49, 52, 55, 52, 56, 51, 54, 52, 55], 2, 2147483647, rfl, good_num _ _ (by decide) (by decide) (Or.inl (by decide)) 2147483647 (by kernel_rfl)⟩
    | m + 7, h => omega
  case round =>
    obtain ⟨k, A, B, hk, hk12, hAl, hBl, rfl, rfl, rfl, HL, HBu, hB⟩ := hrel
    by_cases h1 : k < len
    · have h1z : (k : Int) < len := by omega
      by_cases h2 : k < 12
      · have h2z : (k : Int) < 12 := by omega
        obtain ⟨b, off, rfl, hbl, z, hc⟩ : ∃ b off, ao = some ⟨b, off, none⟩ ∧ b < w.heap.size ∧ ∃ z, w.cell? ⟨b, off + k, none⟩ = some (.int .i64 z) := by
          rcases HI.out with h | ⟨b, off, h3, h4, h5⟩
          · omega
          · exact ⟨b, off, h3, h4, h5 k (by omega)⟩
        have hc1 : wr.cell? ⟨b, off + k, none⟩ = some (.int .i64 z) := by rw [Below.cell hB (p := ⟨b, off + k, none⟩) hbl]; exact hc
        clear hc
        obtain ⟨m, hm, em⟩ := mod_u64 z 7 (by omega)
        obtain ⟨P, pk, pv, hP, hG⟩ := HL.out.2 m (by omega)
        have HG : Hid (Good P pk pv) := hG
        have hPl : P.length ≤ 10 := hG.2.1
        clear hG
        have hz := Below.size hB
        obtain ⟨m2, hm2, em2⟩ := mod_u64 (IntKind.u64.wrap how + (k : Int)) 4 (by omega)
        have hcase : m2 = 0 ∨ m2 = 1 ∨ m2 = 2 ∨ m2 = 3 := by omega
        clear hm2
        rcases hcase with rfl | rfl | rfl | rfl
        · go_wp2_with fail
          refine ⟨⟨k + 1, A ++ P ++ [32], B ++ [32] ++ P ++ [9], by omega, by omega, by simp; omega, by simp; omega, by go_num, by rw [← bapp, ← bapp], by rw [← bapp, ← bapp, ← bapp], HL.out.next ((Below.refl _ _).alloc (Nat.le_refl _) _), HBu.out.snoc HG.out [32] (by decide), hB.alloc _⟩, by simp [intOf]; omega⟩
        · go_wp2_with fail
          refine ⟨⟨k + 1, A ++ P ++ [32], B ++ [9] ++ P ++ [9], by omega, by omega, by simp; omega, by simp; omega, by go_num, by rw [← bapp, ← bapp], by rw [← bapp, ← bapp, ← bapp], HL.out.next ((Below.refl _ _).alloc (Nat.le_refl _) _), HBu.out.snoc HG.out [9] (by decide), hB.alloc _⟩, by simp [intOf]; omega⟩
        · go_wp2_with fail
          refine ⟨⟨k + 1, A ++ P ++ [32], B ++ [32, 32] ++ P ++ [9], by omega, by omega, by simp; omega, by simp; omega, by go_num, by rw [← bapp, ← bapp], by rw [← bapp, ← bapp, ← bapp], HL.out.next ((Below.refl _ _).alloc (Nat.le_refl _) _), HBu.out.snoc HG.out [32, 32] (by decide), hB.alloc _⟩, by simp [intOf]; omega⟩
        · go_wp2_with fail
          refine ⟨⟨k + 1, A ++ P ++ [32], B ++ [13] ++ P ++ [9], by omega, by omega, by simp; omega, by simp; omega, by go_num, by rw [← bapp, ← bapp], by rw [← bapp, ← bapp, ← bapp], HL.out.next ((Below.refl _ _).alloc (Nat.le_refl _) _), HBu.out.snoc HG.out [13] (by decide), hB.alloc _⟩, by simp [intOf]; omega⟩
      · have h2z : ¬ (k : Int) < 12 := by omega
        obtain ⟨ta, tb, l1, c1, l2, c2, hA, hBB, hkey⟩ := HBu.out.same
        have hll := congrArg List.length hkey
        simp only [List.length_map] at hll
        have HK : Hid (ta.map keyT = tb.map keyT) := hkey
        have HA : Hid (allOf A = (ta, l1, c1, 0)) := hA
        have HB2 : Hid (allOf (B ++ [35, 32, 97, 110, 100, 32, 109, 111, 114, 101, 32, 49, 97]) = (tb, l2, c2, 0)) := hBB
        have htl := allP_len A.length A 1 1 (Nat.le_refl _)
        rw [← allOf_P, hA] at htl
        simp only at htl
        clear hkey hA hBB
        have RW := Rng.next hR hB
        go_wp2_with fail
        refine (all_any A (by omega) _ RW ta l1 c1 0 HA.out).mono ?_
        rintro e w2 ⟨v1, rfl, row1, b2⟩
        have R2 := RW.next b2
        have p2 := Past.next hB b2
        obtain ⟨av1, cp1, rfl, sl1⟩ := row1.form
        have S1 : Hid (Sl w2 av1 cp1 ta) := sl1
        clear row1 sl1 b2
        go_wp2_with fail
        rw [show (⟨B.toArray⟩ : ByteArray) ++ ⟨#[35, 32, 97, 110, 100, 32, 109, 111, 114, 101, 32, 49, 97]⟩ = ⟨(B ++ [35, 32, 97, 110, 100, 32, 109, 111, 114, 101, 32, 49, 97]).toArray⟩ from bapp _ _]
        refine (all_any (B ++ [35, 32, 97, 110, 100, 32, 109, 111, 114, 101, 32, 49, 97]) (by simp; omega) _ (by exact R2.alloc _) tb l2 c2 0 HB2.out).mono ?_
        rintro e w3 ⟨v2, rfl, row2, b3⟩
        have R3 := (R2.alloc _).next b3
        have p3 := (p2.alloc _).next b3
        have S3 : Hid (Sl w3 av1 cp1 ta) := (S1.out.next ((Below.refl _ _).alloc (Nat.le_refl _) _)).next b3
        obtain ⟨av2, cp2, rfl, sl2⟩ := row2.form
        have S4 : Hid (Sl w3 av2 cp2 tb) := sl2
        rw [← hll]
        clear row2 sl2 b3 R2 p2 S1
        go_wp2_with fail
        go_loopw [16] (fun x wy => ∃ j : Nat, j ≤ ta.length ∧ x = .int .i64 j ∧ Hid (Sl wy av1 cp1 ta) ∧ Hid (Sl wy av2 cp2 tb) ∧ Rng wy ∧ Past w wy) (fun x _ => ta.length - (intOf x).toNat)
        case atStart => exact ⟨0, Nat.zero_le _, rfl, S3.out.next ((Below.refl _ _).alloc (Nat.le_refl _) _), S4.out.next ((Below.refl _ _).alloc (Nat.le_refl _) _), R3.alloc _, p3.alloc _⟩
        case round =>
          obtain ⟨j, hj, rfl, S5, S6, R5, p5⟩ := hrel
          by_cases hlj : j < ta.length
          · have hljz : (j : Int) < ta.length := by omega
            rcases S5.out with h | ⟨g1, rfl, hc1, hm1, tk1⟩
            · omega
            rcases S6.out with h | ⟨g2, rfl, hc2, hm2, tk2⟩
            · omega
            have hk1 : keyT ta[j] = keyT tb[j] := by
              have h := congrArg (fun l => l[j]?) HK.out
              simp only [List.getElem?_map, List.getElem?_eq_getElem hlj, List.getElem?_eq_getElem (show j < tb.length by omega), Option.map_some] at h
              exact Option.some.inj h
            have ta1 := tk1.at j hlj
            have ta2 := tk2.at j (by omega)
            clear tk1 tk2
            generalize ta[j] = y1 at hk1 ta1
            generalize tb[j] = y2 at hk1 ta2
            obtain ⟨ak, an, al, ac, at1⟩ := y1
            obtain ⟨bk, bn, bl, bc, bt⟩ := y2
            simp only [keyT, Prod.mk.injEq] at hk1
            obtain ⟨rfl, rfl, rfl⟩ := hk1
            obtain ⟨x0, x1, x2, x3, x4⟩ := ta1
            obtain ⟨y0, y1, y2, y3, y4⟩ := ta2
            simp only [Nat.zero_add] at x0 x1 x2 x3 x4 y0 y1 y2 y3 y4
            rw [← hll] at hc2
            go_wp2_with fail
            go_quiet ((fail))
            go_wp2_with fail
            exact ⟨⟨j + 1, by omega, by go_num, S5.out.next (below_draws _ _), S6.out.next (below_draws _ _), R5.next (below_draws _ _), p5.next (below_draws _ _)⟩, by simp [intOf]; omega⟩
          · have hljz : ¬ (j : Int) < ta.length := by omega
            go_wp2_with fail
            refine (told_any _ R5).mono ?_
            rintro e w6 ⟨rfl, b6⟩
            go_wp2
            go_ret
            exact ⟨rfl, p5.next b6⟩
    · have h1z : ¬ (k : Int) < len := by omega
      obtain ⟨ta, tb, l1, c1, l2, c2, hA, hBB, hkey⟩ := HBu.out.same
      have hll := congrArg List.length hkey
      simp only [List.length_map] at hll
      have HK : Hid (ta.map keyT = tb.map keyT) := hkey
      have HA : Hid (allOf A = (ta, l1, c1, 0)) := hA
      have HB2 : Hid (allOf (B ++ [35, 32, 97, 110, 100, 32, 109, 111, 114, 101, 32, 49, 97]) = (tb, l2, c2, 0)) := hBB
      have htl := allP_len A.length A 1 1 (Nat.le_refl _)
      rw [← allOf_P, hA] at htl
      simp only at htl
      clear hkey hA hBB
      have RW := Rng.next hR hB
      go_wp2_with fail
      refine (all_any A (by omega) _ RW ta l1 c1 0 HA.out).mono ?_
      rintro e w2 ⟨v1, rfl, row1, b2⟩
      have R2 := RW.next b2
      have p2 := Past.next hB b2
      obtain ⟨av1, cp1, rfl, sl1⟩ := row1.form
      have S1 : Hid (Sl w2 av1 cp1 ta) := sl1
      clear row1 sl1 b2
      go_wp2_with fail
      rw [show (⟨B.toArray⟩ : ByteArray) ++ ⟨#[35, 32, 97, 110, 100, 32, 109, 111, 114, 101, 32, 49, 97]⟩ = ⟨(B ++ [35, 32, 97, 110, 100, 32, 109, 111, 114, 101, 32, 49, 97]).toArray⟩ from bapp _ _]
      refine (all_any (B ++ [35, 32, 97, 110, 100, 32, 109, 111, 114, 101, 32, 49, 97]) (by simp; omega) _ (by exact R2.alloc _) tb l2 c2 0 HB2.out).mono ?_
      rintro e w3 ⟨v2, rfl, row2, b3⟩
      have R3 := (R2.alloc _).next b3
      have p3 := (p2.alloc _).next b3
      have S3 : Hid (Sl w3 av1 cp1 ta) := (S1.out.next ((Below.refl _ _).alloc (Nat.le_refl _) _)).next b3
      obtain ⟨av2, cp2, rfl, sl2⟩ := row2.form
      have S4 : Hid (Sl w3 av2 cp2 tb) := sl2
      rw [← hll]
      clear row2 sl2 b3 R2 p2 S1
      go_wp2_with fail
      go_loopw [16] (fun x wy => ∃ j : Nat, j ≤ ta.length ∧ x = .int .i64 j ∧ Hid (Sl wy av1 cp1 ta) ∧ Hid (Sl wy av2 cp2 tb) ∧ Rng wy ∧ Past w wy) (fun x _ => ta.length - (intOf x).toNat)
      case atStart => exact ⟨0, Nat.zero_le _, rfl, S3.out.next ((Below.refl _ _).alloc (Nat.le_refl _) _), S4.out.next ((Below.refl _ _).alloc (Nat.le_refl _) _), R3.alloc _, p3.alloc _⟩
      case round =>
        obtain ⟨j, hj, rfl, S5, S6, R5, p5⟩ := hrel
        by_cases hlj : j < ta.length
        · have hljz : (j : Int) < ta.length := by omega
          rcases S5.out with h | ⟨g1, rfl, hc1, hm1, tk1⟩
          · omega
          rcases S6.out with h | ⟨g2, rfl, hc2, hm2, tk2⟩
          · omega
          have hk1 : keyT ta[j] = keyT tb[j] := by
            have h := congrArg (fun l => l[j]?) HK.out
            simp only [List.getElem?_map, List.getElem?_eq_getElem hlj, List.getElem?_eq_getElem (show j < tb.length by omega), Option.map_some] at h
            exact Option.some.inj h
          have ta1 := tk1.at j hlj
          have ta2 := tk2.at j (by omega)
          clear tk1 tk2
          generalize ta[j] = y1 at hk1 ta1
          generalize tb[j] = y2 at hk1 ta2
          obtain ⟨ak, an, al, ac, at1⟩ := y1
          obtain ⟨bk, bn, bl, bc, bt⟩ := y2
          simp only [keyT, Prod.mk.injEq] at hk1
          obtain ⟨rfl, rfl, rfl⟩ := hk1
          obtain ⟨x0, x1, x2, x3, x4⟩ := ta1
          obtain ⟨y0, y1, y2, y3, y4⟩ := ta2
          simp only [Nat.zero_add] at x0 x1 x2 x3 x4 y0 y1 y2 y3 y4
          rw [← hll] at hc2
          go_wp2_with fail
          go_quiet ((fail))
          go_wp2_with fail
          exact ⟨⟨j + 1, by omega, by go_num, S5.out.next (below_draws _ _), S6.out.next (below_draws _ _), R5.next (below_draws _ _), p5.next (below_draws _ _)⟩, by simp [intOf]; omega⟩
        · have hljz : ¬ (j : Int) < ta.length := by omega
          go_wp2_with fail
          refine (told_any _ R5).mono ?_
          rintro e w6 ⟨rfl, b6⟩
          go_wp2
          go_ret
          exact ⟨rfl, p5.next b6⟩

theorem apart_law (ao : Option Addr) (len cap : Nat) (zs : List Int) {w0 : World} (hz : IsRow .i64 w0 ao len cap zs) (how : Int) (_ : -9223372036854775808 ≤ how ∧ how ≤ 9223372036854775807) (w : World) (hR : Rng w) (hw : w0 = w) :
    Calls Tryd.prog 7 #[.slice ao len cap, .int .i64 how] w fun e w' => e = .returned (.bool true) ∧ Below w.heap.size w w' := by
  subst hw
  exact apart_any ao len cap how hz.len w0 hR (hz.ints 12)
end Go.Proofs.YthdcglgojdclkaaDoor
