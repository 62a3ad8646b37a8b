/- run.Of by its contract. -/
import Derived.Test.YtdodmbfkcandgaaULongC
import Derived.Test.YtdodmbfkcandgaaVZero
namespace Go.Proofs.Ytdodmbfkcandgaa.Rnn
set_option linter.unusedVariables false
set_option maxRecDepth 100000
open Go.RowKit Go.Shelf
open Go.Proofs.Ytdodmbfkcandgaa.Ven (Seat Pole Ven VenAt venV seatV Box mayB Sl SeatAt below_alloc ret_bool ret_int may_any intC Cells RowF make23)

def ofOk (V : Ven) (u : List Bool) (first size : Int) : Bool := decide (1 ≤ size ∧ size ≤ longB V u first)
def ofL (V : Ven) (u : List Bool) (first size : Int) : List Int := if ofOk V u first size = true then rowL first.toNat size.toNat else []
theorem rowL_len (a k : Nat) : (rowL a k).length = k := by unfold rowL; simp
theorem rowL_at (a k i : Nat) (h : i < (rowL a k).length) : (rowL a k)[i] = ((a + i : Nat) : Int) := by
  simp only [rowL, List.getElem_map, List.getElem_range', Nat.one_mul]; rfl
/-- A row of numbers, cell by cell. -/
theorem sl_of_row {W : World} {G n : Nat} {f : Nat → Value} {l : List Int} (h : RowF W G n f) (hl : l.length = n) (hm : n ≤ maxLen) (hf : ∀ j (hj : j < l.length), f j = .int .i64 l[j]) : Sl 1 intC W (.slice (some ⟨G, 0, none⟩) n n) l := by
  subst hl
  refine .inr ⟨G, 0, l.length, rfl, Nat.le_refl _, hm, h.1, fun i hi j v hv => ?_⟩
  have hj : j = 0 := by
    have := (List.getElem?_eq_some_iff.1 hv).1
    simp [intC] at this; exact this
  subst hj
  have := (h.2 i hi).1
  rw [hf i hi] at this
  simp only [intC, List.getElem?_cons_zero, Option.some.injEq] at hv
  subst hv
  simpa using this
set_option maxHeartbeats 4000000 in
theorem of_any (a1 a2 a3 u1 : Option Addr) (n1 c1 n2 c2 n3 c3 un uc : Nat) (V : Ven) (u : List Bool) (a size : Int) (w : World) (h : VenAt w a1 n1 c1 a2 n2 c2 a3 n3 c3 V) (hu : MarksAt w u1 un uc u) :
    Calls Try.prog 9 #[venV a1 n1 c1 V.gap V.radius a2 n2 c2 a3 n3 c3, .slice u1 un uc, .int .i64 a, .int .i64 size] w fun e w' => ∃ v, e = .returned (.tuple #[v, .bool (ofOk V u a size)]) ∧ Sl 1 intC w' v (ofL V u a size) ∧ Below w.heap.size w w' := by
  have hb0 := below_alloc w (.cells #[.slice a1 n1 c1, .int .i64 V.gap, .int .i64 V.radius, .slice a2 n2 c2, .slice a3 n3 c3] 26)
  have hx := Box.fresh w 26 #[.slice a1 n1 c1, .int .i64 V.gap, .int .i64 V.radius, .slice a2 n2 c2, .slice a3 n3 c3]
  have hn := h.s.len
  subst hn
  have HL := hid' (long_any a1 a2 a3 u1 V.seats.length c1 n2 c2 n3 c3 un uc V u a _ (h.next hb0) (hu.next hb0))
  have HK : Hid (ofOk V u a size = decide (1 ≤ size ∧ size ≤ longB V u a)) := rfl
  have HV : Hid (ofL V u a size = if ofOk V u a size = true then rowL a.toNat size.toNat else []) := rfl
  have HMO : Hid (0 < longB V u a → 0 ≤ a ∧ a + longB V u a ≤ 4096) := fun h0 => by
    have := longB_most h0
    have h2 := (may_well this.2.2).few
    omega
  obtain ⟨v0, v1, v2, v3, v4⟩ := hx.five
  clear h hu
  generalize longB V u a = lg at *
  generalize ofOk V u a size = ok at *
  generalize ofL V u a size = L at *
  generalize V.seats.length = n at *
  generalize V.radius = rad at *
  generalize V.gap = gap at *
  by_cases h1 : size < 1
  · obtain rfl : ok = false := by have := HK.out; rw [decide_eq_false (by omega)] at this; exact this
    obtain rfl : L = [] := HV.out
    go_enter Try.func9, Try.ntmps9
    go_wp2
    go_ret2
    exact ⟨_, rfl, .inl ⟨⟨_, _, rfl⟩, rfl⟩, hb0⟩
  · by_cases h2 : lg < size
    · obtain rfl : ok = false := by have := HK.out; rw [decide_eq_false (by omega)] at this; exact this
      obtain rfl : L = [] := HV.out
      go_enter Try.func9, Try.ntmps9
      go_wp2_with fail
      refine HL.out.mono ?_
      rintro e w1 ⟨rfl, hb1⟩
      have HB := hid' (hb0.trans (hb1.mono hb0.size))
      clear hx v0 v1 v2 v3 v4 hb0 hb1 HL
      go_wp2
      go_ret2
      exact ⟨_, rfl, .inl ⟨⟨_, _, rfl⟩, rfl⟩, HB.out⟩
    · obtain rfl : ok = true := by have := HK.out; rw [decide_eq_true (by omega)] at this; exact this
      have hmo := HMO.out (by omega)
      obtain ⟨m, rfl⟩ : ∃ m : Nat, size = (m : Int) := ⟨size.toNat, by omega⟩
      obtain ⟨k, rfl⟩ : ∃ k : Nat, a = (k : Int) := ⟨a.toNat, by omega⟩
      obtain rfl : L = rowL k m := by have := HV.out; simpa using this
      have hkm : k + m ≤ 4096 := by omega
      have hmk := make23 m (by omega)
      clear HK HV HMO hmo
      go_enter Try.func9, Try.ntmps9
      go_wp2_with fail
      refine HL.out.mono ?_
      rintro e w1 ⟨rfl, hb1⟩
      have hB1 := hb0.trans (hb1.mono hb0.size)
      clear hx v0 v1 v2 v3 v4 hb0 hb1 HL
      have hB2 := hB1.alloc hB1.size (.cells (madeCells #[.int .i64 0] m) 3)
      have hrf := RowF.made w1 (.int .i64 0) m 3
      have hGw := hB1.size
      go_wp2_with fail
      generalize w1.alloc (.cells (madeCells #[.int .i64 0] m) 3) = W0 at *
      obtain ⟨G, hG⟩ : ∃ G, G = w1.heap.size := ⟨_, rfl⟩
      rw [← hG] at hrf hGw ⊢
      have HB0 := hid' hB2
      have HR0 := hid' hrf
      clear hB1 hB2 hrf hmk hG h2
      go_loopw [11, 26] (fun _ i wr => ∃ (j : Nat) (f : Nat → Value), j ≤ m ∧ i = .int .i64 j ∧ Hid (Below w.heap.size w wr) ∧ Hid (RowF wr G m f) ∧ Hid (∀ q, q < j → f q = .int .i64 ((k + q : Nat) : Int))) (fun _ i _ => m - (intOf i).toNat)
      case atStart => exact ⟨0, _, Nat.zero_le _, rfl, HB0, HR0, fun q hq => absurd hq (by omega)⟩
      case round =>
        clear HB0 HR0
        obtain ⟨j, f, hj, rfl, HB, HR, HF⟩ := hrel
        by_cases hlt : j < m
        · have hltz : (j : Int) < (m : Int) := by omega
          have hwr : IntKind.i64.wrap ((k : Int) + (j : Int)) = (k : Int) + (j : Int) := by rw [IntKind.wrap_i64] <;> omega
          have v0 := (HR.out.2 j hlt).1
          have v1 := (HR.out.2 j hlt).2
          have HB2 := hid' (Below.setCell HB.out (show w.heap.size ≤ (⟨G, j, none⟩ : Addr).block from hGw) (.int .i64 ((k : Int) + (j : Int))))
          have HR2 := hid' (HR.out.put (f' := fun q => if q = j then .int .i64 ((k : Int) + (j : Int)) else f q) j (.int .i64 ((k : Int) + (j : Int))) hlt (fun q _ => rfl))
          have HF2 : Hid (∀ q, q < j + 1 → (fun q => if q = j then Value.int .i64 ((k : Int) + (j : Int)) else f q) q = .int .i64 ((k + q : Nat) : Int)) := fun q hq => by
            show (if q = j then Value.int .i64 ((k : Int) + (j : Int)) else f q) = _
            by_cases e : q = j
            · rw [if_pos e, e]; rfl
            · rw [if_neg e]; exact HF.out q (by omega)
          clear HB HR HF
          go_wp2_with fail
          exact ⟨⟨j + 1, _, by omega, by go_num, HB2, HR2, HF2⟩, by simp [intOf]; omega⟩
        · have hltz : ¬ (j : Int) < (m : Int) := by omega
          have HS : Hid (Sl 1 intC wr (.slice (some ⟨G, 0, none⟩) m m) (rowL k m)) := sl_of_row HR.out (rowL_len k m) (by unfold maxLen; omega) (fun q hq => by rw [rowL_at]; rw [rowL_len] at hq; exact HF.out q (by omega))
          clear HR HF
          go_wp2
          go_ret2
          exact ⟨_, rfl, HS.out, HB.out⟩
end Go.Proofs.Ytdodmbfkcandgaa.Rnn
