/- parterreref2.sign by its contract. -/
import Derived.Test.YtpkjhlcolgoknaaDoorQRefP
import Derived.Test.YtpkjhlcolgoknaaDoorQSign
namespace Go.Proofs.YtpkjhlcolgoknaaDoor.Prn
set_option linter.unusedVariables false
set_option maxRecDepth 100000
open Go.RowKit Go.Shelf
open Go.Proofs.YtpkjhlcolgoknaaDoor.Ven (Seat Pole Ven VenAt venV Box mayB mixed SeatAt below_alloc)

theorem kind_of {V : Ven} (hm : mayB V = true) (i : Nat) (hi : i < V.seats.length) : V.seats[i].kind = 0 ∨ V.seats[i].kind = 1 ∨ V.seats[i].kind = 2 := by
  unfold Ven.mayB at hm
  simp only [Bool.and_eq_true] at hm
  have h := ((Ven.seatsB_iff _).1 hm.1.1.1.1).2.2.1 _ (List.getElem_mem hi)
  unfold Ven.seatB at h
  simp only [Bool.and_eq_true] at h
  have := h.2
  unfold Ven.kindB at this
  simp at this; omega
set_option maxHeartbeats 4000000 in
theorem rsign_o (a1 a2 a3 : Option Addr) (n1 c1 n2 c2 n3 c3 : Nat) (V : Ven) (i : Nat) (o : Int) (ao : Option Addr) (len cap : Nat) (own : List Int) (w : World) (h : VenAt w a1 n1 c1 a2 n2 c2 a3 n3 c3 V) (hm : mayB V = true) (hi : i < V.seats.length) (ho : Own w ao len own) (hoo : own.getD i 0 = o) :
    Calls Tryd.prog 27 #[venV a1 n1 c1 V.gap V.radius a2 n2 c2 a3 n3 c3, .int .i64 i, .slice ao len cap] w fun e w' => e = .returned (.string ⟨[signO V o i].toArray⟩) ∧ Below w.heap.size w w' := by
  obtain rfl : n1 = V.seats.length := h.s.len
  obtain rfl : n2 = V.kills.length := h.k.len
  obtain rfl : n3 = V.poles.length := h.p.len
  have hV := may_v hm
  have hn2 := hV.n2
  have hkn := hV.kn
  have hkd := kind_of hm i hi
  obtain ⟨sb, so, rfl, _, hC⟩ := sl_addr h.s (by omega)
  obtain ⟨sl, q0, q1, q2, q3⟩ := hC.seat i hi
  have hsi : signO V o i = if (i : Int) ∈ V.kills then 120 else if 0 < o then 35 else if o < 0 then 45 else freeL V.seats[i].kind := by
    unfold signO; rw [getElem!_pos V.seats i hi]
  have HSI : Hid (signO V o i = if (i : Int) ∈ V.kills then 120 else if 0 < o then 35 else if o < 0 then 45 else freeL V.seats[i].kind) := hsi
  have HKS : Hid (Ven.Sl 1 Ven.intC (w.alloc (.cells #[.slice (some ⟨sb, so, none⟩) V.seats.length c1, .int .i64 V.gap, .int .i64 V.radius, .slice a2 V.kills.length c2, .slice a3 V.poles.length c3] 26)) (.slice a2 V.kills.length c2) V.kills) := (h.next (below_alloc w _)).k
  have HB : Hid (Below w.heap.size w (w.alloc (.cells #[.slice (some ⟨sb, so, none⟩) V.seats.length c1, .int .i64 V.gap, .int .i64 V.radius, .slice a2 V.kills.length c2, .slice a3 V.poles.length c3] 26))) := below_alloc w _
  have HBX : Hid (Box (w.alloc (.cells #[.slice (some ⟨sb, so, none⟩) V.seats.length c1, .int .i64 V.gap, .int .i64 V.radius, .slice a2 V.kills.length c2, .slice a3 V.poles.length c3] 26)) w.heap.size 26 #[.slice (some ⟨sb, so, none⟩) V.seats.length c1, .int .i64 V.gap, .int .i64 V.radius, .slice a2 V.kills.length c2, .slice a3 V.poles.length c3]) := Box.fresh _ _ _
  have HQ : Hid ((w.alloc (.cells #[.slice (some ⟨sb, so, none⟩) V.seats.length c1, .int .i64 V.gap, .int .i64 V.radius, .slice a2 V.kills.length c2, .slice a3 V.poles.length c3] 26)).cell? ⟨sb, so + i * 4 + 3, none⟩ = some (.int .i64 V.seats[i].kind) ∧ sb < (w.alloc (.cells #[.slice (some ⟨sb, so, none⟩) V.seats.length c1, .int .i64 V.gap, .int .i64 V.radius, .slice a2 V.kills.length c2, .slice a3 V.poles.length c3] 26)).heap.size) := ⟨by rw [(below_alloc w _).cell (p := ⟨sb, so + i * 4 + 3, none⟩) sl]; exact q3, Nat.lt_of_lt_of_le sl (below_alloc w _).size⟩
  have HOW : Hid (Own w ao len own) := ho
  clear h hm hC q0 q1 q2 q3 hV hsi ho
  generalize V.seats[i].kind = kd at HSI HQ hkd
  generalize signO V o i = sg at HSI ⊢
  generalize V.gap = gap at HKS HB HBX HQ ⊢
  generalize V.radius = radius at HKS HB HBX HQ ⊢
  obtain ⟨hol, hom, hown⟩ := HOW.out
  subst hol
  unfold maxLen at hom
  have hcase : (i < own.length ∧ ∃ b off, ao = some ⟨b, off, none⟩ ∧ b < w.heap.size ∧ w.cell? ⟨b, off + i, none⟩ = some (.int .i64 o)) ∨ (¬ i < own.length ∧ o = 0) := by
    by_cases hlt : i < own.length
    · left
      refine ⟨hlt, ?_⟩
      rcases hown with h0 | ⟨b, off, h1, h2, h3⟩
      · omega
      · refine ⟨b, off, h1, h2, ?_⟩
        rw [h3 i hlt, ← hoo]; simp [List.getD, hlt]
    · right
      refine ⟨hlt, ?_⟩
      rw [← hoo]; simp [List.getD, List.getElem?_eq_none (Nat.le_of_not_lt hlt)]
  clear hown HOW hoo
  rcases hcase with ⟨hlt, b, off, rfl, hbl, hoc⟩ | ⟨hlt, rfl⟩
  all_goals
    first | (have hltz : (i : Int) < (own.length : Int) := by omega) | (have hltz : ¬ (i : Int) < (own.length : Int) := by omega)
  case inl =>
    go_enter Tryd.func27, Tryd.ntmps27
    go_wp2_with fail
    clear hoc hbl
    generalize w.alloc (.cells #[.slice (some ⟨sb, so, none⟩) V.seats.length c1, .int .i64 gap, .int .i64 radius, .slice a2 V.kills.length c2, .slice a3 V.poles.length c3] 26) = W at HKS HB HBX HQ ⊢
    obtain ⟨v0, v1, v2, v3, v4⟩ := HBX.out.five
    have vl := HBX.out.lt
    go_loop [8] (fun j => ∃ m : Nat, m ≤ V.kills.length ∧ j = .int .i64 m ∧ Hid (∀ j (hj : j < V.kills.length), j < m → ¬ V.kills[j] = (i : Int))) (fun j => V.kills.length - (intOf j).toNat)
    case atStart => exact ⟨0, Nat.zero_le _, rfl, fun j hj h => absurd h (Nat.not_lt_zero _)⟩
    case round =>
      obtain ⟨m, hm, rfl, HN⟩ := hrel
      by_cases hlm : m < V.kills.length
      · have hlmz : (m : Int) < (V.kills.length : Int) := by omega
        obtain ⟨kb, ko, rfl, _, hK⟩ := sl_addr HKS.out (by omega)
        have kc := cellsInt hK m hlm
        have kl := hK.1
        have HME : Hid (V.kills[m] = (i : Int) → (i : Int) ∈ V.kills) := fun h => by rw [← h]; exact List.getElem_mem hlm
        have HNX : Hid (¬ V.kills[m] = (i : Int) → ∀ j (hj : j < V.kills.length), j < m + 1 → ¬ V.kills[j] = (i : Int)) := fun h j hj hjm => by
          by_cases e : j = m
          · subst e; exact h
          · exact HN.out j hj (by omega)
        generalize V.kills[m] = z at kc HME HNX
        clear hK
        by_cases hz : z = (i : Int)
        · subst hz
          go_wp2_with fail
          go_ret
          refine ⟨?_, HB.out⟩
          rw [HSI.out, if_pos (by simpa using HME.out)]; rfl
        · have hze : (z == (i : Int)) = false := by simpa using hz
          go_wp2_with fail
          go_round
          case rel => exact ⟨m + 1, by omega, by go_num, HNX.out hz⟩
          case measure => simp [intOf]; omega
      · have hlmz : ¬ (m : Int) < (V.kills.length : Int) := by omega
        have hnot : ¬ (i : Int) ∈ V.kills := by
          intro h
          obtain ⟨j, hj, e⟩ := List.getElem_of_mem h
          exact HN.out j hj (by omega) e
        rw [if_neg hnot] at HSI
        clear hnot HN
        have q3 := HQ.out.1
        have ql := HQ.out.2
        by_cases hp : 0 < o
        · rw [if_pos hp] at HSI
          go_wp2_with fail
          go_ret
          refine ⟨?_, HB.out⟩
          rw [HSI.out]; rfl
        · rw [if_neg hp] at HSI
          by_cases hn : o < 0
          · rw [if_pos hn] at HSI
            go_wp2_with fail
            go_ret
            refine ⟨?_, HB.out⟩
            rw [HSI.out]; rfl
          · rw [if_neg hn] at HSI
            rcases hkd with rfl | rfl | rfl
            all_goals
              go_wp2_with fail
              go_ret
              refine ⟨?_, HB.out.alloc HB.out.size _⟩
              rw [HSI.out]; rfl
  case inr =>
    go_enter Tryd.func27, Tryd.ntmps27
    go_wp2_with fail
    generalize w.alloc (.cells #[.slice (some ⟨sb, so, none⟩) V.seats.length c1, .int .i64 gap, .int .i64 radius, .slice a2 V.kills.length c2, .slice a3 V.poles.length c3] 26) = W at HKS HB HBX HQ ⊢
    obtain ⟨v0, v1, v2, v3, v4⟩ := HBX.out.five
    have vl := HBX.out.lt
    go_loop [8] (fun j => ∃ m : Nat, m ≤ V.kills.length ∧ j = .int .i64 m ∧ Hid (∀ j (hj : j < V.kills.length), j < m → ¬ V.kills[j] = (i : Int))) (fun j => V.kills.length - (intOf j).toNat)
    case atStart => exact ⟨0, Nat.zero_le _, rfl, fun j hj h => absurd h (Nat.not_lt_zero _)⟩
    case round =>
      obtain ⟨m, hm, rfl, HN⟩ := hrel
      by_cases hlm : m < V.kills.length
      · have hlmz : (m : Int) < (V.kills.length : Int) := by omega
        obtain ⟨kb, ko, rfl, _, hK⟩ := sl_addr HKS.out (by omega)
        have kc := cellsInt hK m hlm
        have kl := hK.1
        have HME : Hid (V.kills[m] = (i : Int) → (i : Int) ∈ V.kills) := fun h => by rw [← h]; exact List.getElem_mem hlm
        have HNX : Hid (¬ V.kills[m] = (i : Int) → ∀ j (hj : j < V.kills.length), j < m + 1 → ¬ V.kills[j] = (i : Int)) := fun h j hj hjm => by
          by_cases e : j = m
          · subst e; exact h
          · exact HN.out j hj (by omega)
        generalize V.kills[m] = z at kc HME HNX
        clear hK
        by_cases hz : z = (i : Int)
        · subst hz
          go_wp2_with fail
          go_ret
          refine ⟨?_, HB.out⟩
          rw [HSI.out, if_pos (by simpa using HME.out)]; rfl
        · have hze : (z == (i : Int)) = false := by simpa using hz
          go_wp2_with fail
          go_round
          case rel => exact ⟨m + 1, by omega, by go_num, HNX.out hz⟩
          case measure => simp [intOf]; omega
      · have hlmz : ¬ (m : Int) < (V.kills.length : Int) := by omega
        have hnot : ¬ (i : Int) ∈ V.kills := by
          intro h
          obtain ⟨j, hj, e⟩ := List.getElem_of_mem h
          exact HN.out j hj (by omega) e
        rw [if_neg hnot] at HSI
        clear hnot HN
        have q3 := HQ.out.1
        have ql := HQ.out.2
        rw [if_neg (by omega), if_neg (by omega)] at HSI
        rcases hkd with rfl | rfl | rfl
        all_goals
          go_wp2_with fail
          go_ret
          refine ⟨?_, HB.out.alloc HB.out.size _⟩
          rw [HSI.out]; rfl
end Go.Proofs.YtpkjhlcolgoknaaDoor.Prn
