/- parterrelaw4.Text by its contract: some text; what a text that is read wrongly has for a code; PrintFixed answers true: its walk. -/
import Derived.Test.YtpkjhlcolgoknaaGreatDoorZbe
import Derived.Test.YtpkjhlcolgoknaaGreatDoorZah
import Derived.Test.YtpkjhlcolgoknaaGreatDoorZai
import Derived.Test.YtpkjhlcolgoknaaGreatDoorZbc
import Derived.Test.YtpkjhlcolgoknaaGreatDoorZbd
namespace Go.Proofs.YtpkjhlcolgoknaaGreatDoor.Prn
open Go.RowKit Go.Shelf
open Go.Proofs.YtpkjhlcolgoknaaGreatDoor.Tok (Ints Lits mod_u64 allP allP_cases)
open Go.Proofs.YtpkjhlcolgoknaaGreatDoor.Par (readL readL_large readL_scan scan)
set_option linter.unusedVariables false
set_option maxRecDepth 100000

theorem ints_of {w : World} {ao : Option Addr} {len cap : Nat} {zs : List Int} (h : IsRow .i64 w ao len cap zs) (m : Nat) : len ≤ 9223372036854775807 ∧ Ints w ao (min len m) := by
  obtain ⟨h1, h2, h3⟩ := h.own
  unfold maxLen at h2
  refine ⟨by omega, ?_⟩
  rcases h3 with h3 | ⟨b, off, h4, h5, h6⟩
  · exact .inl (by omega)
  · exact .inr ⟨b, off, h4, h5, fun i hi => ⟨_, h6 i (by omega)⟩⟩
/-- A row of texts in a block, none longer than 20 bytes. -/
theorem lits_fresh (w : World) (cs : Array Value) (t : TypeId) (n : Nat) (h : ∀ m, m < n → ∃ P : List UInt8, cs[m]? = some (.string ⟨P.toArray⟩) ∧ P.length ≤ 20) : Lits (w.alloc (.cells cs t)) w.heap.size n := Tok.Lits.fresh w cs t n h
theorem code_02 : ∀ (n : Nat) (l : List UInt8) (li co : Int), l.length ≤ n → (allP l li co).2.2.2 = 0 ∨ (allP l li co).2.2.2 = 2 := by
  intro n
  induction n with
  | zero =>
    intro l li co hl
    rcases allP_cases l li co with ⟨_, h⟩ | ⟨_, _, _, _, _, _, h⟩ | ⟨_, gk, gn, gt, gs, _, h1, h2, _, h⟩
    · rw [h]; exact .inl rfl
    · rw [h]; exact .inr rfl
    · omega
  | succ n ih =>
    intro l li co hl
    rcases allP_cases l li co with ⟨_, h⟩ | ⟨_, _, _, _, _, _, h⟩ | ⟨_, gk, gn, gt, gs, _, h1, h2, _, h⟩
    · rw [h]; exact .inl rfl
    · rw [h]; exact .inr rfl
    · rw [h]
      exact ih _ _ _ (by rw [List.length_drop]; omega)
theorem readL_pos {l : List UInt8} {p : Int × Int × Int} (h : readL l = .error p) : 0 < p.1 := by
  by_cases hl : 1048576 < l.length
  · rw [readL_large hl] at h
    injection h with h
    subst h; decide
  · rw [readL_scan hl] at h
    have hc := code_02 l.length l 1 1 (Nat.le_refl _)
    have hs : (scan l 1 Par.St.zero).1.2.2 = (allP l 1 1).2.2.2 := rfl
    rw [hs] at h
    split at h
    · split at h
      · injection h with h; subst h; show (0 : Int) < 2; decide
      · split at h
        · injection h with h; subst h; show (0 : Int) < 2; decide
        · cases h
    · rename_i hne
      injection h with h
      subst h
      show 0 < (allP l 1 1).2.2.2
      omega
attribute [local go_sem] bapp
set_option maxRecDepth 100000 in
set_option maxHeartbeats 1000000 in
theorem text4_any (ao : Option Addr) (len cap : Nat) (hlen : len ≤ 9223372036854775807) (most : Nat) (hmost : most ≤ 25) (w : World) (hI : Ints w ao (min len most)) :
    Calls Tryz.prog 11 #[.slice ao len cap, .int .i64 most] w fun e w' => ∃ T : List UInt8, e = .returned (.string ⟨T.toArray⟩) ∧ T.length ≤ 550 ∧ Below w.heap.size w w' := by
  have HI : Hid (Ints w ao (min len most)) := hI
  clear hI
  go_enter Tryz.func11, Tryz.ntmps11
  go_wp2
  go_loopw [6, 7] (fun s i wr => ∃ (k : Nat) (T : List UInt8), k ≤ len ∧ k ≤ most ∧ T.length ≤ k * 21 ∧ i = .int .i64 k ∧ s = .string ⟨T.toArray⟩ ∧ Hid (Lits wr w.heap.size 30) ∧ w.heap.size < wr.heap.size ∧ Below w.heap.size w wr) (fun _ i _ => most - (intOf i).toNat)
  case atStart =>
    refine ⟨0, [], by omega, by omega, by simp, rfl, rfl, ?_, by simp, (Below.refl _ _).alloc (Nat.le_refl _) _⟩
    refine lits_fresh _ _ _ _ ?_
    intro m hm
    match m, hm with
    | 0, _ | 1, _ | 2, _ | 3, _ | 4, _ | 5, _ | 6, _ | 7, _ | 8, _ | 9, _ | 10, _ | 11, _ | 12, _ | 13, _ | 14, _ | 15, _ | 16, _ | 17, _ | 18, _ | 19, _ | 20, _ | 21, _ | 22, _ | 23, _ | 24, _ | 25, _ | 26, _ | 27, _ | 28, _ | 29, _ => exact ⟨_, rfl, by decide⟩
    | m + 30, h => omega
  case round =>
    obtain ⟨k, T, hk, hkm, hT, rfl, rfl, HL, hz, hB⟩ := hrel
    by_cases h1 : k < len
    · have h1z : (k : Int) < len := by omega
      by_cases h2 : k < most
      · have h2z : (k : Int) < most := by omega
        obtain ⟨b, off, rfl, hbl, z, hc⟩ : ∃ b off, ao = some ⟨b, off, none⟩ ∧ b < w.heap.size ∧ ∃ z, w.cell? ⟨b, off + k, none⟩ = some (.int .i64 z) := by
          rcases HI.out with h | ⟨b, off, h3, h4, h5⟩
          · omega
          · exact ⟨b, off, h3, h4, h5 k (by omega)⟩
        have hc1 : wr.cell? ⟨b, off + k, none⟩ = some (.int .i64 z) := by rw [hB.cell (p := ⟨b, off + k, none⟩) hbl]; exact hc
        clear hc
        obtain ⟨m, hm, em⟩ := mod_u64 z 30 (by omega)
        obtain ⟨P, hP, hPl⟩ := HL.out m (by omega)
        go_wp2
        refine ⟨⟨k + 1, T ++ P ++ [10], by omega, by omega, by simp; omega, by go_num, by simp, HL, hz, hB⟩, by simp [intOf]; omega⟩
      · have h2z : ¬ (k : Int) < most := by omega
        go_wp2
        go_ret
        exact ⟨T, rfl, by omega, hB⟩
    · have h1z : ¬ (k : Int) < len := by omega
      go_wp2
      go_ret
      exact ⟨T, rfl, by omega, hB⟩

end Go.Proofs.YtpkjhlcolgoknaaGreatDoor.Prn

namespace Go.Proofs.YtpkjhlcolgoknaaGreatDoor.Prn
set_option linter.unusedVariables false
set_option maxRecDepth 100000
open Go.RowKit Go.Shelf
open Go.Proofs.YtpkjhlcolgoknaaGreatDoor.Ven (Seat Pole Ven VenAt VenOwn venV venZ Box mayB mixed SeatAt below_alloc IsOrder normU)
open Go.Proofs.YtpkjhlcolgoknaaGreatDoor.Par (VenTo venue_any readL Has0 FaultAt)

attribute [local go_sem] bapp
/-- What is read, whatever it is: a fault, or a venue that may be. -/
theorem read_may (l : List UInt8) (w : World) (hB : Both w) : Calls Tryz.prog 14 #[.string ⟨l.toArray⟩] w fun e w' =>
    ((∃ b, e = .returned (.tuple #[venZ, .iface 80 (.pointer (some ⟨b, 0, none⟩))])) ∨
    (∃ b1 m1 d1 b2 m2 d2 b3 m3 d3 V, e = .returned (.tuple #[venV b1 m1 d1 V.gap V.radius b2 m2 d2 b3 m3 d3, .nilIface]) ∧ VenAt w' b1 m1 d1 b2 m2 d2 b3 m3 d3 V ∧ mayB V = true)) ∧ Below w.heap.size w w' := by
  refine (venue_any l w hB.has.rng hB.has.et (fun p hp => readL_pos hp)).mono ?_
  intro e w' ⟨h, hb⟩
  refine ⟨?_, hb⟩
  cases hr : readL l with
  | error p =>
    rw [hr] at h
    obtain ⟨v, he, b, rfl, _⟩ := h
    exact .inl ⟨b, he⟩
  | ok V =>
    rw [hr] at h
    obtain ⟨ord, ho, hm, b1, m1, d1, b2, m2, d2, b3, m3, d3, he, hv⟩ := h
    exact .inr ⟨b1, m1, d1, b2, m2, d2, b3, m3, d3, normU V ord, he, hv.at, hm⟩
theorem print_most {V : Ven} (hm : mayB V = true) : (printL V).length ≤ 1048576 := by
  have hV := v_ok hm
  rw [print_lns hV]
  have hb := flat_bound It.text 76 ((lnsOf V).map (fun l => It.mk [] l [])) (by
    intro x hx
    obtain ⟨l, hl, rfl⟩ := List.mem_map.1 hx
    have := line_len (lns_ok hV l hl)
    unfold It.text
    simp only [List.nil_append, List.append_nil, List.length_append, List.length_singleton]; omega)
  rw [List.length_map, lns_len] at hb
  have := hV.n2; have := hV.nk; have := hV.np
  omega
theorem print_pos (V : Ven) : 1 ≤ (printL V).length := by
  unfold printL headL factL tGap
  simp only [List.length_append, List.length_cons]; omega
set_option maxHeartbeats 8000000 in
theorem fixed_law {w : World} (ao : Option Addr) (len cap : Nat) (zs : List Int) (hz : IsRow .i64 w ao len cap zs) (w1 : World) (hB1 : Both w1) (hw : w = w1 := by rfl) :
    Calls Tryz.prog 9 #[.slice ao len cap] w1 fun e w' => e = .returned (.bool true) ∧ Below w1.heap.size w1 w' := by
  subst hw
  have HB : Hid (Both w) := hB1
  clear hB1
  obtain ⟨hl, hI⟩ := ints_of hz 15
  have ht : Calls Tryz.prog 11 #[.slice ao len cap, .int .i64 15] w fun e w' => ∃ T : List UInt8, e = .returned (.string ⟨T.toArray⟩) ∧ T.length ≤ 550 ∧ Below w.heap.size w w' := text4_any ao len cap hl 15 (by decide) w hI
  clear hl hI hz
  go_enter Tryz.func9, Tryz.ntmps9
  go_wp2_with fail
  refine ht.mono ?_
  rintro e w1 ⟨T, rfl, hT, hb1⟩
  have HB1 : Hid (Below w.heap.size w w1) := hb1
  clear hb1 ht
  have hrd := read_may (103 :: 97 :: 112 :: 32 :: 49 :: 48 :: 10 :: T) w1 (HB.out.next HB1.out)
  go_wp2_with fail
  refine hrd.mono ?_
  clear hrd
  rintro e w2 ⟨h, hb2⟩
  have HB2 : Hid (Below w.heap.size w w2) := HB1.out.trans (hb2.mono HB1.out.size)
  clear hb2 HB1
  rcases h with ⟨b, rfl⟩ | ⟨a1, n1, c1, a2, n2, c2, a3, n3, c3, V, rfl, hv, hm⟩
  · unfold venZ
    go_wp2_with fail
    have hb3 := below_alloc w2 (.cells #[.slice none 0 0, .int .i64 0, .int .i64 0, .slice none 0 0, .slice none 0 0] 33)
    have HB3 : Hid (Below w.heap.size w (w2.alloc (.cells #[.slice none 0 0, .int .i64 0, .int .i64 0, .slice none 0 0, .slice none 0 0] 33))) := HB2.out.trans (hb3.mono HB2.out.size)
    clear hb3
    refine (told_any _ (HB.out.pow.next HB3.out)).mono ?_
    rintro e w9 ⟨rfl, hb9⟩
    have HB9 : Hid (Below w.heap.size w w9) := HB3.out.trans (hb9.mono HB3.out.size)
    clear hb9
    go_wp2
    go_ret
    exact ⟨rfl, HB9.out⟩
  obtain ⟨P, hP⟩ : ∃ P, printL V = P := ⟨_, rfl⟩
  have hPl : 1 ≤ P.length := by rw [← hP]; exact print_pos V
  have hPm : P.length ≤ 1048576 := by rw [← hP]; exact print_most hm
  have hpv : ∀ W, Below w2.heap.size w2 W → Calls Tryz.prog 24 #[venV a1 n1 c1 V.gap V.radius a2 n2 c2 a3 n3 c3] W fun e w2 => e = .returned (.tuple #[.string ⟨P.toArray⟩, .int .i64 0]) ∧ Below W.heap.size W w2 := fun W hW => by
    have := venue_yes a1 a2 a3 n1 c1 n2 c2 n3 c3 V W (hv.next hW) hm ((HB.out.pow.next HB2.out).next hW)
    rw [hP] at this; exact this
  have hrd : ∀ W, Below w2.heap.size w2 W → Calls Tryz.prog 14 #[.string ⟨P.toArray⟩] W fun e w' => (∃ b1 m1 d1 b2 m2 d2 b3 m3 d3, e = .returned (.tuple #[venV b1 m1 d1 V.gap V.radius b2 m2 d2 b3 m3 d3, .nilIface]) ∧
      (∀ W', Below w'.heap.size w' W' → Calls Tryz.prog 24 #[venV b1 m1 d1 V.gap V.radius b2 m2 d2 b3 m3 d3] W' fun e w2 => e = .returned (.tuple #[.string ⟨P.toArray⟩, .int .i64 0]) ∧ Below W'.heap.size W' w2)) ∧ Below W.heap.size W w' := fun W hW => by
    have := back_any V hm W ((HB.out.next HB2.out).next hW)
    rw [hP] at this
    refine this.mono ?_
    rintro e w' ⟨b1, m1, d1, b2, m2, d2, b3, m3, d3, he, hu, hb⟩
    refine ⟨⟨b1, m1, d1, b2, m2, d2, b3, m3, d3, he, fun W' hW' => ?_⟩, hb⟩
    have := venue_yes b1 b2 b3 m1 d1 m2 d2 m3 d3 V W' (hu.next hW') hm ((((HB.out.next HB2.out).next hW).next hb).next hW').pow
    rw [hP] at this; exact this
  clear hv hm hP
  generalize V.gap = gap at hpv hrd ⊢
  generalize V.radius = radius at hpv hrd ⊢
  have HPV : Hid (∀ W, Below w2.heap.size w2 W → Calls Tryz.prog 24 #[.agg #[.slice a1 n1 c1, .int .i64 gap, .int .i64 radius, .slice a2 n2 c2, .slice a3 n3 c3]] W fun e w2 => e = .returned (.tuple #[.string ⟨P.toArray⟩, .int .i64 0]) ∧ Below W.heap.size W w2) := hpv
  have HRD := hid hrd
  clear hpv hrd
  go_wp2_with fail
  have HK3 : Hid (Below w2.heap.size w2 (w2.alloc (.cells #[.slice a1 n1 c1, .int .i64 gap, .int .i64 radius, .slice a2 n2 c2, .slice a3 n3 c3] 33))) := below_alloc w2 _
  have HX3 : Hid (Box (w2.alloc (.cells #[.slice a1 n1 c1, .int .i64 gap, .int .i64 radius, .slice a2 n2 c2, .slice a3 n3 c3] 33)) w2.heap.size 33 #[.slice a1 n1 c1, .int .i64 gap, .int .i64 radius, .slice a2 n2 c2, .slice a3 n3 c3]) := Box.fresh w2 _ _
  generalize w2.alloc (.cells #[.slice a1 n1 c1, .int .i64 gap, .int .i64 radius, .slice a2 n2 c2, .slice a3 n3 c3] 33) = w3 at HK3 HX3 ⊢
  generalize hq0 : w2.heap.size = q0 at HX3 ⊢
  clear hq0
  refine (HPV.out w3 HK3.out).mono ?_
  rintro e w4 ⟨rfl, hb4⟩
  have HK4 : Hid (Below w2.heap.size w2 w4) := HK3.out.trans (hb4.mono HK3.out.size)
  clear hb4 HK3 HX3 HPV
  go_wp2_with fail
  refine (HRD.out w4 HK4.out).mono ?_
  rintro e w5 ⟨⟨b1, m1, d1, b2, m2, d2, b3, m3, d3, rfl, hu⟩, hb5⟩
  have HK5 : Hid (Below w2.heap.size w2 w5) := HK4.out.trans (hb5.mono HK4.out.size)
  have HPU : Hid (∀ W, Below w5.heap.size w5 W → Calls Tryz.prog 24 #[.agg #[.slice b1 m1 d1, .int .i64 gap, .int .i64 radius, .slice b2 m2 d2, .slice b3 m3 d3]] W fun e w2 => e = .returned (.tuple #[.string ⟨P.toArray⟩, .int .i64 0]) ∧ Below W.heap.size W w2) := hu
  clear hb5 hu HK4 HRD
  go_wp2_with fail
  have HU6 : Hid (Below w5.heap.size w5 (w5.alloc (.cells #[.slice b1 m1 d1, .int .i64 gap, .int .i64 radius, .slice b2 m2 d2, .slice b3 m3 d3] 33))) := below_alloc w5 _
  generalize w5.alloc (.cells #[.slice b1 m1 d1, .int .i64 gap, .int .i64 radius, .slice b2 m2 d2, .slice b3 m3 d3] 33) = w6 at HU6 ⊢
  refine (HPU.out w6 HU6.out).mono ?_
  rintro e w7 ⟨rfl, hb7⟩
  have HU7 : Hid (Below w5.heap.size w5 w7) := HU6.out.trans (hb7.mono HU6.out.size)
  have HB7 : Hid (Below w.heap.size w w7) := HB2.out.trans ((HK5.out.trans (HU7.out.mono HK5.out.size)).mono HB2.out.size)
  clear hb7 HU6 HPU
  go_wp2_with fail
  refine (told_any w7 (HB.out.pow.next HB7.out)).mono ?_
  rintro e w8 ⟨rfl, hb8⟩
  have HB8 : Hid (Below w.heap.size w w8) := HB7.out.trans (hb8.mono HB7.out.size)
  clear hb8
  have hz2 : 0 < P.length := by omega
  go_wp2
  go_ret
  exact ⟨rfl, HB8.out⟩
end Go.Proofs.YtpkjhlcolgoknaaGreatDoor.Prn
