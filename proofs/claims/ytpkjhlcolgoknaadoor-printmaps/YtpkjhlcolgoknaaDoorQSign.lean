/- print.free, print.owner, print.sign by contracts. -/
import Derived.Test.YtpkjhlcolgoknaaDoorQVenue
namespace Go.Proofs.YtpkjhlcolgoknaaDoor.Prn
set_option linter.unusedVariables false
set_option maxRecDepth 100000
open Go.RowKit Go.Shelf
open Go.Proofs.YtpkjhlcolgoknaaDoor.Ven (Seat Pole Ven VenAt venV Box mayB mixed SeatAt below_alloc)

theorem free_any (k : Int) (w : World) : Calls Tryd.prog 35 #[.int .i64 k] w fun e w' => e = .returned (.int .u8 ((freeL k).toNat : Int)) ∧ w' = w := by
  unfold freeL
  by_cases h1 : k = 1
  · subst h1
    go_enter Tryd.func35, Tryd.ntmps35
    go_wp2
    go_ret
    exact ⟨rfl, rfl⟩
  rw [if_neg h1]
  by_cases h2 : k = 2
  · subst h2
    go_enter Tryd.func35, Tryd.ntmps35
    go_wp2
    go_ret
    exact ⟨rfl, rfl⟩
  rw [if_neg h2]
  go_enter Tryd.func35, Tryd.ntmps35
  go_wp2
  go_ret
  exact ⟨rfl, rfl⟩
/-- A slice of ints that came in: of no length, or a row of 'cap' cells. -/
def IsRow (k : IntKind) (w : World) (a : Option Addr) (len cap : Nat) (zs : List Int) : Prop :=
  (a = none ∧ len = 0 ∧ cap = 0 ∧ zs = []) ∨
  ∃ x, a = some x ∧ len ≤ cap ∧ cap ≤ maxLen ∧ zs.length = cap ∧ (∀ i, i < zs.length → w.cell? (x.add i) = some (.int k (zs.getD i 0))) ∧ ∀ n ∈ zs, (Lit.int k n).wf = true
/-- The numbers of such a slice, as far as it is long. -/
def Own (w : World) (a : Option Addr) (len : Nat) (l : List Int) : Prop := l.length = len ∧ len ≤ maxLen ∧ (len = 0 ∨ ∃ b off, a = some ⟨b, off, none⟩ ∧ b < w.heap.size ∧ ∀ i (h : i < l.length), w.cell? ⟨b, off + i, none⟩ = some (.int .i64 l[i]))
theorem Own.next {w w' : World} {a : Option Addr} {len : Nat} {l : List Int} (h : Own w a len l) (hb : Below w.heap.size w w') : Own w' a len l := by
  obtain ⟨h1, hm, h2 | ⟨b, off, h2, h3, h4⟩⟩ := h
  · exact ⟨h1, hm, .inl h2⟩
  · exact ⟨h1, hm, .inr ⟨b, off, h2, Nat.lt_of_lt_of_le h3 hb.size, fun i hi => by rw [hb.cell (p := ⟨b, off + i, none⟩) h3]; exact h4 i hi⟩⟩
theorem IsRow.own {w : World} {a : Option Addr} {len cap : Nat} {zs : List Int} (h : IsRow .i64 w a len cap zs) : Own w a len (zs.take len) := by
  rcases h with ⟨rfl, rfl, rfl, rfl⟩ | ⟨x, rfl, hl, hm, hz, hcell, _⟩
  · exact ⟨rfl, Nat.zero_le _, .inl rfl⟩
  · refine ⟨by rw [List.length_take]; omega, by omega, ?_⟩
    rcases Nat.eq_zero_or_pos len with h0 | h0
    · exact .inl h0
    · obtain ⟨b, off, rfl, hc⟩ := ints_at hcell (show 0 < zs.length by omega)
      refine .inr ⟨b, off, rfl, ?_, fun i hi => ?_⟩
      · have h1 := hc 0 (by omega)
        rcases Nat.lt_or_ge b w.heap.size with h' | h'
        · exact h'
        · simp [World.cell?, Array.getElem?_eq_none h'] at h1
      · rw [List.length_take] at hi
        have := hc i (by omega)
        rw [this, List.getElem_take]
        simp [List.getD, show i < zs.length by omega]
theorem owner_any (a : Option Addr) (len cap : Nat) (l : List Int) (i : Nat) (hi : i ≤ 10000) (w : World) (h : Own w a len l) :
    Calls Tryd.prog 26 #[.slice a len cap, .int .i64 i] w fun e w' => e = .returned (.int .i64 (l.getD i 0)) ∧ w' = w := by
  obtain ⟨rfl, hm, h⟩ := h
  unfold maxLen at hm
  by_cases hlt : i < l.length
  · have hz : (i : Int) < (l.length : Int) := by omega
    obtain ⟨b, off, rfl, hb, hc⟩ : ∃ b off, a = some ⟨b, off, none⟩ ∧ b < w.heap.size ∧ ∀ i (h : i < l.length), w.cell? ⟨b, off + i, none⟩ = some (.int .i64 l[i]) := by
      rcases h with h | h
      · omega
      · exact h
    have c := hc i hlt
    have HE : Hid (l.getD i 0 = l[i]) := by show _ = _; simp [List.getD, hlt]
    rw [HE.out]
    clear hc
    generalize l[i] = z at c ⊢
    go_enter Tryd.func26, Tryd.ntmps26
    go_wp2
    go_ret
    exact ⟨rfl, rfl⟩
  · have hz : ¬ (i : Int) < (l.length : Int) := by omega
    have HE : l.getD i 0 = 0 := by simp [List.getD, List.getElem?_eq_none (Nat.le_of_not_lt hlt)]
    rw [HE]
    clear HE
    go_enter Tryd.func26, Tryd.ntmps26
    go_wp2
    go_ret
    exact ⟨rfl, rfl⟩
/-- A seat's sign by the number of its owner. -/
def signO (V : Ven) (o : Int) (i : Nat) : UInt8 := if (i : Int) ∈ V.kills then 120 else if 0 < o then 35 else if o < 0 then 45 else freeL (V.seats[i]!).kind
theorem signL_o (V : Ven) (own : List Int) (i : Nat) : signL V own i = signO V (own.getD i 0) i := rfl
/-- Among the kills? -/
theorem search_any (a : Option Addr) (c : Nat) (l : List Int) (x : Int) (hr : l.Pairwise (fun a b => a < b)) (hl : l.length ≤ 200) (w : World) (h : Ven.Sl 1 Ven.intC w (.slice a l.length c) l) :
    Calls Tryd.prog 34 #[.slice a l.length c, .int .i64 x] w fun e w' => (∃ p : Int, e = .returned (.tuple #[.int .i64 p, .bool (decide (x ∈ l))])) ∧ Below w.heap.size w w' := by
  by_cases h0 : l.length = 0
  · have hn : l = [] := List.length_eq_zero_iff.1 h0
    subst hn
    refine (Tryd.slices_BinarySearch_int_empty a c x w).mono ?_
    rintro e w' ⟨rfl, rfl⟩
    exact ⟨⟨_, rfl⟩, Below.refl _ _⟩
  · obtain ⟨b, off, rfl, _, hC⟩ := sl_addr h (by omega)
    refine (Tryd.slices_BinarySearch_int b off l.length c l x w (Nat.le_refl _) (by omega) (fun j hj => ?_) ?_).mono ?_
    · rw [cellsInt hC j hj]; simp [List.getD, hj]
    · rw [List.take_length]; exact hr.imp fun h => by omega
    · rintro e w' ⟨rfl, q, rfl⟩
      have hc : (l.take l.length).contains x = decide (x ∈ l) := by rw [List.take_length]; simp
      refine ⟨⟨(((l.take l.length).countP (· < x) : Nat) : Int), by rw [hc]⟩, ?_⟩
      exact (⟨rfl, rfl, rfl, Nat.le_refl _, fun _ _ => rfl⟩ : Below w.heap.size w (w.drewN q))
set_option maxHeartbeats 2000000 in
theorem sign_any (a1 a2 a3 : Option Addr) (n1 c1 n2 c2 n3 c3 : Nat) (V : Ven) (i : Nat) (o : Int) (w : World) (h : VenAt w a1 n1 c1 a2 n2 c2 a3 n3 c3 V) (hV : MayV V) (hi : i < V.seats.length) :
    Calls Tryd.prog 25 #[venV a1 n1 c1 V.gap V.radius a2 n2 c2 a3 n3 c3, .int .i64 i, .int .i64 o] w fun e w' => e = .returned (.int .u8 ((signO V o i).toNat : Int)) ∧ Below w.heap.size w w' := by
  obtain rfl : n1 = V.seats.length := h.s.len
  obtain rfl : n2 = V.kills.length := h.k.len
  obtain rfl : n3 = V.poles.length := h.p.len
  have hn2 := hV.n2
  have hb := below_alloc w (.cells #[.slice a1 V.seats.length c1, .int .i64 V.gap, .int .i64 V.radius, .slice a2 V.kills.length c2, .slice a3 V.poles.length c3] 26)
  have hs := search_any a2 c2 V.kills i hV.rise hV.kn _ (h.next hb).k
  obtain ⟨sb, so, rfl, _, hC⟩ := sl_addr h.s (by omega)
  obtain ⟨sl, q0, q1, q2, q3⟩ := hC.seat i hi
  have HB : Hid (Below w.heap.size w (w.alloc (.cells #[.slice (some ⟨sb, so, none⟩) V.seats.length c1, .int .i64 V.gap, .int .i64 V.radius, .slice a2 V.kills.length c2, .slice a3 V.poles.length c3] 26))) := hb
  have HX : Hid (Box (w.alloc (.cells #[.slice (some ⟨sb, so, none⟩) V.seats.length c1, .int .i64 V.gap, .int .i64 V.radius, .slice a2 V.kills.length c2, .slice a3 V.poles.length c3] 26)) w.heap.size 26 #[.slice (some ⟨sb, so, none⟩) V.seats.length c1, .int .i64 V.gap, .int .i64 V.radius, .slice a2 V.kills.length c2, .slice a3 V.poles.length c3]) := Box.fresh _ _ _
  have HQ : Hid (∀ W, Below w.heap.size w W → W.cell? ⟨sb, so + i * 4 + 3, none⟩ = some (.int .i64 V.seats[i].kind) ∧ sb < W.heap.size) := fun W hW => ⟨by rw [hW.cell (p := ⟨sb, so + i * 4 + 3, none⟩) sl]; exact q3, Nat.lt_of_lt_of_le sl hW.size⟩
  have HO : Hid (signO V o i = if decide ((i : Int) ∈ V.kills) = true then 120 else if 0 < o then 35 else if o < 0 then 45 else freeL V.seats[i].kind) := by
    show _ = _
    unfold signO
    rw [getElem!_pos V.seats i hi]
    simp only [decide_eq_true_eq]
  rw [HO.out]
  clear HO h hb q0 q1 q2 q3 sl hC hV
  generalize decide ((i : Int) ∈ V.kills) = kb at hs ⊢
  generalize V.seats[i].kind = kk at HQ ⊢
  generalize V.gap = gap at hs HB HX ⊢
  generalize V.radius = radius at hs HB HX ⊢
  go_enter Tryd.func25, Tryd.ntmps25
  go_wp2_with fail
  refine hs.mono ?_
  rintro e w1 ⟨⟨p, rfl⟩, hb1⟩
  have HB1 : Hid (Below w.heap.size w w1) := HB.out.trans (hb1.mono HB.out.size)
  obtain ⟨v0, v1, v2, v3, v4⟩ := (HX.out.next hb1).five
  have vl := (HX.out.next hb1).lt
  obtain ⟨qc, ql⟩ := HQ.out w1 HB1.out
  clear hs hb1 HB HX HQ v1 v2 v3 v4
  cases kb
  · by_cases h1 : 0 < o
    · go_wp2
      go_ret
      exact ⟨rfl, HB1.out⟩
    · by_cases h2 : o < 0
      · go_wp2
        go_ret
        exact ⟨rfl, HB1.out⟩
      · go_wp2_with (go_at_call 35; refine (free_any _ _).mono ?_; rintro e w' ⟨rfl, rfl⟩)
        go_ret
        exact ⟨rfl, HB1.out⟩
  · go_wp2
    go_ret
    exact ⟨rfl, HB1.out⟩
end Go.Proofs.YtpkjhlcolgoknaaDoor.Prn
