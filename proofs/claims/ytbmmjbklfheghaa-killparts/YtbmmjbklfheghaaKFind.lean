/- slices.BinarySearch at []int, by a walk of its own: is the number among those that rise? -/
import Derived.Test.YtbmmjbklfheghaaCInts
namespace Go.Proofs.Ytbmmjbklfheghaa.Kll
set_option linter.unusedVariables false
set_option maxRecDepth 100000
open Go.RowKit Go.Shelf
open Go.Proofs.Ytbmmjbklfheghaa.Ven (mixed Sl intC ret_bool)
open Go.Proofs.Ytbmmjbklfheghaa.Com (hid')

theorem cnan_any (x : Int) (w : World) : Calls Try.prog 55 #[.int .i64 x] w fun e w' => e = .returned (.bool false) ∧ w' = w := by
  go_enter Try.func55, Try.ntmps55
  go_wp2
  go_ret
  exact ⟨by simp, rfl⟩
theorem snan_any (x : Int) (w : World) : Calls Try.prog 47 #[.int .i64 x] w fun e w' => e = .returned (.bool false) ∧ w' = w := by
  go_enter Try.func47, Try.ntmps47
  go_wp2
  go_ret
  exact ⟨by simp, rfl⟩
theorem cless_any (x y : Int) (w : World) : Calls Try.prog 46 #[.int .i64 x, .int .i64 y] w fun e w' => e = .returned (.bool (decide (x < y))) ∧ w' = w := by
  go_enter Try.func46, Try.ntmps46
  go_wp2_with (refine (cnan_any _ _).mono ?_; rintro e w' ⟨rfl, rfl⟩)
  go_ret
  exact ⟨rfl, rfl⟩
/-- A search told where, and whether it is there. -/
def Told2 (e : Ending) (b : Bool) : Prop := ∃ z, e = .returned (.tuple #[.int .i64 z, .bool b])
/-- What a search by halves ends at. -/
theorem find_end (l : List Int) (x : Int) (i : Nat) (hr : l.Pairwise (fun a b => a < b)) (h1 : ∀ t (h : t < l.length), t < i → l[t] < x) (h2 : ∀ t (h : t < l.length), i ≤ t → x ≤ l[t]) : x ∈ l ↔ ∃ h : i < l.length, l[i] = x := by
  constructor
  · intro h
    obtain ⟨t, ht, he⟩ := List.mem_iff_getElem.1 h
    by_cases hti : t < i
    · have := h1 t ht hti; omega
    · rcases Nat.lt_or_ge i t with h3 | h3
      · have h4 := h2 i (by omega) (Nat.le_refl _)
        have h5 := List.pairwise_iff_getElem.1 hr i t (by omega) ht h3
        omega
      · have e : t = i := by omega
        subst e; exact ⟨ht, he⟩
  · rintro ⟨h, rfl⟩; exact List.getElem_mem h
set_option maxHeartbeats 2000000 in
theorem find_some (l : List Int) (b off cap : Nat) (x : Int) (hm : l.length ≤ 200) (hr : l.Pairwise (fun a b => a < b)) (w : World) (hC : ∀ j (hj : j < l.length), w.cell? ⟨b, off + j, none⟩ = some (.int .i64 l[j])) :
    Calls Try.prog 34 #[.slice (some ⟨b, off, none⟩) l.length cap, .int .i64 x] w fun e w' => Told2 e (decide (x ∈ l)) ∧ w' = w := by
  have HC : Hid (∀ j (hj : j < l.length), w.cell? ⟨b, off + j, none⟩ = some (.int .i64 l[j])) := hC
  have HR := hid' hr
  clear hC hr
  go_enter Try.func34, Try.ntmps34
  go_wp2
  go_loop [7, 8] (fun p q => ∃ lo hi : Nat, p = .int .i64 lo ∧ q = .int .i64 hi ∧ lo ≤ hi ∧ hi ≤ l.length ∧ Hid (∀ t (h : t < l.length), t < lo → l[t] < x) ∧ Hid (∀ t (h : t < l.length), hi ≤ t → x ≤ l[t])) (fun p q => (intOf q).toNat - (intOf p).toNat)
  case atStart => exact ⟨0, l.length, rfl, rfl, Nat.zero_le _, Nat.le_refl _, fun t _ h => absurd h (Nat.not_lt_zero _), fun t h h2 => absurd h (by omega)⟩
  case round =>
    obtain ⟨lo, hi, rfl, rfl, hlh, hil, HL, HG⟩ := hrel
    by_cases hlt : lo < hi
    · have hltz : (lo : Int) < (hi : Int) := by omega
      have hml : (lo + hi) / 2 < l.length := by omega
      have cm := HC.out _ hml
      have HT1 : Hid (l[(lo + hi) / 2] < x → ∀ t (h : t < l.length), t < (lo + hi) / 2 + 1 → l[t] < x) := fun h t ht h2 => by
        rcases Nat.lt_or_ge t ((lo + hi) / 2) with h3 | h3
        · have := List.pairwise_iff_getElem.1 HR.out t ((lo + hi) / 2) ht hml h3
          omega
        · have e : t = (lo + hi) / 2 := by omega
          subst e; exact h
      have HT2 : Hid (¬ l[(lo + hi) / 2] < x → ∀ t (h : t < l.length), (lo + hi) / 2 ≤ t → x ≤ l[t]) := fun h t ht h2 => by
        rcases Nat.lt_or_ge ((lo + hi) / 2) t with h3 | h3
        · have := List.pairwise_iff_getElem.1 HR.out ((lo + hi) / 2) t hml ht h3
          omega
        · have e : t = (lo + hi) / 2 := by omega
          subst e; omega
      generalize l[(lo + hi) / 2] = y at cm HT1 HT2
      by_cases hyx : y < x
      · go_wp2_with (refine (cless_any _ _ _).mono ?_; rintro e w' ⟨rfl, rfl⟩)
        go_round
        case rel => exact ⟨(lo + hi) / 2 + 1, hi, by go_num, rfl, by omega, hil, HT1.out hyx, HG.out⟩
        case measure => simp [intOf]; omega
      · go_wp2_with (refine (cless_any _ _ _).mono ?_; rintro e w' ⟨rfl, rfl⟩)
        go_round
        case rel => exact ⟨lo, (lo + hi) / 2, rfl, by go_num, by omega, by omega, HL.out, HT2.out hyx⟩
        case measure => simp [intOf]; omega
    · have hltz : ¬ (lo : Int) < (hi : Int) := by omega
      have e : hi = lo := by omega
      subst e
      have HE := hid' (find_end l x hi HR.out HL.out HG.out)
      clear HL HG
      by_cases hn : hi < l.length
      · have hnz : (hi : Int) < (l.length : Int) := by omega
        have cl := HC.out _ hn
        have HE2 : Hid (decide (x ∈ l) = decide (l[hi] = x)) := by
          show decide (x ∈ l) = decide (l[hi] = x)
          rw [decide_eq_decide, HE.out]
          exact ⟨fun ⟨_, h⟩ => h, fun h => ⟨hn, h⟩⟩
        clear HE
        generalize l[hi] = y at cl HE2
        by_cases hyx : y = x
        · have hyb : (y == x) = true := by simp [hyx]
          go_wp2_with (refine (snan_any _ _).mono ?_; rintro e w' ⟨rfl, rfl⟩)
          go_ret2
          exact ⟨⟨(hi : Int), by rw [HE2.out, decide_eq_true hyx]; first | rfl | simp [*]⟩, rfl⟩
        · have hyb : (y == x) = false := by simp [hyx]
          go_wp2_with (refine (snan_any _ _).mono ?_; rintro e w' ⟨rfl, rfl⟩)
          go_ret2
          exact ⟨⟨(hi : Int), by rw [HE2.out, decide_eq_false hyx]; first | rfl | simp [*]⟩, rfl⟩
      · have hnz : ¬ (hi : Int) < (l.length : Int) := by omega
        have HE2 : Hid (decide (x ∈ l) = false) := by
          show decide (x ∈ l) = false
          rw [decide_eq_false_iff_not, HE.out]
          rintro ⟨h, _⟩; exact hn h
        clear HE
        go_wp2_with (refine (snan_any _ _).mono ?_; rintro e w' ⟨rfl, rfl⟩)
        go_ret2
        exact ⟨⟨(hi : Int), by rw [HE2.out]; first | rfl | simp [*]⟩, rfl⟩
theorem find_none (a : Option Addr) (cap : Nat) (x : Int) (w : World) :
    Calls Try.prog 34 #[.slice a 0 cap, .int .i64 x] w fun e w' => Told2 e false ∧ w' = w := by
  go_enter Try.func34, Try.ntmps34
  go_wp2
  go_loop [7, 8] (fun p q => p = .int .i64 0 ∧ q = .int .i64 0) (fun _ _ => 0)
  case atStart => exact ⟨rfl, rfl⟩
  case round =>
    obtain ⟨rfl, rfl⟩ := hrel
    go_wp2
    go_ret2
    exact ⟨⟨_, rfl⟩, rfl⟩
theorem find_any (l : List Int) (v : Value) (x : Int) (hm : l.length ≤ 200) (hr : l.Pairwise (fun a b => a < b)) (w : World) (h : Sl 1 intC w v l) :
    Calls Try.prog 34 #[v, .int .i64 x] w fun e w' => Told2 e (decide (x ∈ l)) ∧ w' = w := by
  by_cases h0 : 0 < l.length
  · obtain ⟨b, off, cap, rfl, _, hC⟩ := Com.Sl.num h h0
    exact find_some l b off cap x hm hr w hC
  · obtain rfl : l = [] := List.eq_nil_of_length_eq_zero (by omega)
    rcases h with ⟨⟨a, c, rfl⟩, _⟩ | ⟨b, off, cap, rfl, _⟩
    · exact find_none _ _ _ _
    · exact find_none _ _ _ _
end Go.Proofs.Ytbmmjbklfheghaa.Kll
