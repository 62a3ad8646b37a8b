/- Marks in memory; run.isSeat, run.isUsable by contracts. -/
import Derived.Test.YtdodmbfkcandgaaULong
import Derived.Test.YtdodmbfkcandgaaVRLeaf
namespace Go.Proofs.Ytdodmbfkcandgaa.Rnn
set_option linter.unusedVariables false
set_option maxRecDepth 100000
open Go.RowKit Go.Shelf
open Go.Proofs.Ytdodmbfkcandgaa.Ven (Seat Pole Ven VenAt venV seatV Box mayB Sl below_alloc ret_bool)

theorem hid' {p : Prop} (h : p) : Hid p := h
def boolC (b : Bool) : List Value := [.bool b]
theorem boolC_len (b : Bool) : (boolC b).length = 1 := rfl
/-- The slice at 'a' is these marks. -/
def MarksAt (w : World) (a : Option Addr) (n c : Nat) (u : List Bool) : Prop := Sl 1 boolC w (.slice a n c) u
theorem MarksAt.next {w w' : World} {a : Option Addr} {n c : Nat} {u : List Bool} (h : MarksAt w a n c u) (hb : Below w.heap.size w w') : MarksAt w' a n c u := Ven.Sl.next h hb
theorem MarksAt.len {w : World} {a : Option Addr} {n c : Nat} {u : List Bool} (h : MarksAt w a n c u) : n = u.length := Ven.Sl.len h
theorem MarksAt.at {w : World} {a : Option Addr} {n c : Nat} {u : List Bool} (h : MarksAt w a n c u) (k : Nat) (hk : k < u.length) : ∃ b off, a = some ⟨b, off, none⟩ ∧ b < w.heap.size ∧ w.cell? ⟨b, off + k, none⟩ = some (.bool u[k]) := by
  rcases h with ⟨_, rfl⟩ | ⟨b, off, cap, he, _, _, hC⟩
  · cases hk
  · cases he
    refine ⟨b, off, rfl, hC.1, ?_⟩
    have := hC.2 k hk 0 _ rfl
    simpa using this
/-- Is it a seat, and usable? -/
def usB (n : Nat) (u : List Bool) (a : Int) : Bool := decide (0 ≤ a ∧ a < (n : Int)) && isU u a.toNat
theorem usB_nat {n : Nat} (u : List Bool) {a : Nat} (h : a < n) : usB n u a = isU u a := by
  unfold usB
  rw [decide_eq_true (by omega)]; simp
theorem usB_off {n : Nat} (u : List Bool) {a : Int} (h : ¬ (0 ≤ a ∧ a < (n : Int))) : usB n u a = false := by
  unfold usB; rw [decide_eq_false h]; rfl
theorem usB_seat {n : Nat} {u : List Bool} {a : Int} (h : usB n u a = true) : 0 ≤ a ∧ a < (n : Int) := by
  unfold usB at h
  exact of_decide_eq_true (Bool.and_eq_true_iff.1 h).1
theorem isSeat_any (a1 a2 a3 : Option Addr) (n1 c1 n2 c2 n3 c3 : Nat) (gap rad k : Int) (w : World) :
    Calls Try.prog 22 #[venV a1 n1 c1 gap rad a2 n2 c2 a3 n3 c3, .int .i64 k] w fun e w' => e = .returned (.bool (decide (0 ≤ k ∧ k < (n1 : Int)))) ∧ Below w.heap.size w w' := by
  have hb := below_alloc w (.cells #[.slice a1 n1 c1, .int .i64 gap, .int .i64 rad, .slice a2 n2 c2, .slice a3 n3 c3] 26)
  by_cases h : 0 ≤ k
  · go_enter Try.func22, Try.ntmps22
    go_wp2
    go_ret
    exact ⟨ret_bool (by simp [h]), hb⟩
  · go_enter Try.func22, Try.ntmps22
    go_wp2
    go_ret
    exact ⟨ret_bool (by simp; omega), hb⟩
set_option maxHeartbeats 2000000 in
theorem isUsable_any (a1 a2 a3 u1 : Option Addr) (n1 c1 n2 c2 n3 c3 un uc : Nat) (gap rad a : Int) (u : List Bool) (w : World) (hu : MarksAt w u1 un uc u) :
    Calls Try.prog 31 #[venV a1 n1 c1 gap rad a2 n2 c2 a3 n3 c3, .slice u1 un uc, .int .i64 a] w fun e w' => e = .returned (.bool (usB n1 u a)) ∧ Below w.heap.size w w' := by
  have hb0 := below_alloc w (.cells #[.slice a1 n1 c1, .int .i64 gap, .int .i64 rad, .slice a2 n2 c2, .slice a3 n3 c3] 26)
  have hx := Box.fresh w 26 #[.slice a1 n1 c1, .int .i64 gap, .int .i64 rad, .slice a2 n2 c2, .slice a3 n3 c3]
  have hi := isSeat_any a1 a2 a3 n1 c1 n2 c2 n3 c3 gap rad a
  obtain ⟨v0, v1, v2, v3, v4⟩ := hx.five
  have hn := hu.len
  subst hn
  by_cases h : 0 ≤ a ∧ a < (n1 : Int)
  · rw [decide_eq_true h] at hi
    obtain ⟨k, rfl, hk⟩ : ∃ k : Nat, a = (k : Int) ∧ k < n1 := ⟨a.toNat, by omega, by omega⟩
    rw [usB_nat u hk]
    by_cases hl : k < u.length
    · have hz : (k : Int) < (u.length : Int) := by omega
      obtain ⟨b, off, rfl, hlt, hc⟩ := (hu.next hb0).at k hl
      have e : isU u k = u[k] := by unfold isU; rw [List.getD_eq_getElem?_getD, List.getElem?_eq_getElem hl]; rfl
      rw [e]
      clear e h hk hu
      generalize u[k] = z at *
      generalize u.length = m at *
      go_enter Try.func31, Try.ntmps31
      go_wp2_with fail
      refine (hi _).mono ?_
      rintro e w1 ⟨rfl, hb1⟩
      have hc1 : w1.cell? ⟨b, off + k, none⟩ = some (.bool z) := by rw [hb1.cell (p := ⟨b, off + k, none⟩) hlt]; exact hc
      have HB := hid' (hb0.trans (hb1.mono hb0.size))
      clear hx v0 v1 v2 v3 v4 hb0 hb1 hc hlt hi
      go_wp2
      go_ret
      exact ⟨rfl, HB.out⟩
    · have hz : ¬ (k : Int) < (u.length : Int) := by omega
      have e : isU u k = false := by unfold isU; rw [List.getD_eq_getElem?_getD, List.getElem?_eq_none (by omega)]; rfl
      rw [e]
      clear e h hk hu
      generalize u.length = m at *
      go_enter Try.func31, Try.ntmps31
      go_wp2_with fail
      refine (hi _).mono ?_
      rintro e w1 ⟨rfl, hb1⟩
      have HB := hid' (hb0.trans (hb1.mono hb0.size))
      clear hx v0 v1 v2 v3 v4 hb0 hb1 hi
      go_wp2
      go_ret
      exact ⟨rfl, HB.out⟩
  · rw [decide_eq_false h] at hi
    rw [usB_off u h]
    go_enter Try.func31, Try.ntmps31
    go_wp2_with fail
    refine (hi _).mono ?_
    rintro e w1 ⟨rfl, hb1⟩
    have HB := hid' (hb0.trans (hb1.mono hb0.size))
    clear hx v0 v1 v2 v3 v4 hb0 hb1 hi
    go_wp2
    go_ret
    exact ⟨rfl, HB.out⟩
end Go.Proofs.Ytdodmbfkcandgaa.Rnn
