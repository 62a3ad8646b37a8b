/- parterrelaw6.told answers true. -/
import Derived.Test.YtgpkdjhllekihaaGGraph
import Derived.Test.YtgpkdjhllekihaaVZero
import Derived.KernelRfl
namespace Go.Proofs.Ytgpkdjhllekihaa.Geo
set_option linter.unusedVariables false
set_option maxRecDepth 100000
open Go.RowKit Go.Shelf
open Go.Proofs.Ytgpkdjhllekihaa.Ven (Seat Pole Ven VenAt venV seatV seatC intC Box mayB mixed below_alloc RowF row_next row_same row_slice may_any Sl row_sl intC_len BelowOf wp_region_quiet_below Calls.below_of)

/-- The venue of told. -/
def V6 : Ven := ⟨[⟨0, 0, 0, 0⟩, ⟨0, 3, 4, 0⟩, ⟨0, 4, 0, 0⟩], 1, 5, [], []⟩
def Z5 : Ven := ⟨[], 0, 0, [], []⟩
theorem graph_V6 : graphL V6 = [[2], [2], [0, 1]] := by kernel_rfl
theorem near_V6 : nearL V6 0 0 5 = [0, 2] := by kernel_rfl
theorem clash_01 : clashB V6 0 1 = false := by kernel_rfl
theorem clash_02 : clashB V6 0 2 = true := by kernel_rfl
theorem clash_00 : clashB V6 0 0 = false := by kernel_rfl
theorem clash_09 : clashB V6 0 9 = false := by kernel_rfl
theorem far_25 : farI 0 0 3 4 = 25 := by kernel_rfl
theorem far_beyond : farI 1048577 0 0 0 = 0 := by kernel_rfl
theorem graph_Z5 : graphL Z5 = [] := by kernel_rfl
theorem ven_Z5 (w : World) : VenAt w none 0 0 none 0 0 none 0 0 Z5 := ⟨.inl ⟨⟨_, _, rfl⟩, rfl⟩, .inl ⟨⟨_, _, rfl⟩, rfl⟩, .inl ⟨⟨_, _, rfl⟩, rfl⟩⟩
theorem RowsAt.one {W : World} {v : Value} {L : List (List Int)} (h : RowsAt W v L) (h0 : 0 < L.length) : ∃ G f, v = .slice (some ⟨G, 0, none⟩) L.length L.length ∧ RowF W G L.length f ∧ ∀ j (h : j < L.length), Ints (G + 1) W (f j) L[j] := by
  rcases h with ⟨_, h⟩ | ⟨G, f, _, h⟩
  · rw [h] at h0; cases h0
  · exact ⟨G, f, h⟩
/-- A number of a row. -/
theorem Ints.at {base : Nat} {W : World} {v : Value} {l : List Int} (h : Ints base W v l) (h0 : 0 < l.length) : ∃ b off cap, v = .slice (some ⟨b, off, none⟩) l.length cap ∧ l.length ≤ cap ∧ cap ≤ maxLen ∧ b < W.heap.size ∧ ∀ j (hj : j < l.length), W.cell? ⟨b, off + j, none⟩ = some (.int .i64 l[j]) := by
  rcases h.sl with ⟨_, hn⟩ | ⟨b, off, cap, hv, h1, h2, h3⟩
  · rw [hn] at h0; cases h0
  · exact ⟨b, off, cap, hv, h1, h2, h3.1, fun j hj => by simpa using h3.2 j hj 0 _ rfl⟩
set_option maxHeartbeats 8000000 in
theorem told_any (w : World) : Calls Try.prog 8 #[] w fun e w' => e = .returned (.bool true) ∧ Below w.heap.size w w' := by
  have hbs := Box.fresh w 28 #[.int .i64 0, .int .i64 0, .int .i64 0, .int .i64 0, .int .i64 0, .int .i64 3, .int .i64 4, .int .i64 0, .int .i64 0, .int .i64 4, .int .i64 0, .int .i64 0]
  have hbs2 := hbs.next (below_alloc _ (.cells #[.slice (some ⟨w.heap.size, 0, none⟩) 3 3, .int .i64 1, .int .i64 5, .slice none 0 0, .slice none 0 0] 26))
  have hx := Box.fresh (w.alloc (.cells #[.int .i64 0, .int .i64 0, .int .i64 0, .int .i64 0, .int .i64 0, .int .i64 3, .int .i64 4, .int .i64 0, .int .i64 0, .int .i64 4, .int .i64 0, .int .i64 0] 28)) 26 #[.slice (some ⟨w.heap.size, 0, none⟩) 3 3, .int .i64 1, .int .i64 5, .slice none 0 0, .slice none 0 0]
  rw [World.size_alloc] at hx
  have hb : Below w.heap.size w ((w.alloc (.cells #[.int .i64 0, .int .i64 0, .int .i64 0, .int .i64 0, .int .i64 0, .int .i64 3, .int .i64 4, .int .i64 0, .int .i64 0, .int .i64 4, .int .i64 0, .int .i64 0] 28)).alloc (.cells #[.slice (some ⟨w.heap.size, 0, none⟩) 3 3, .int .i64 1, .int .i64 5, .slice none 0 0, .slice none 0 0] 26)) := ((Below.refl _ w).alloc (Nat.le_refl _) _).alloc (by simp) _
  clear hbs
  go_enter Try.func8, Try.ntmps8
  go_wp2_with fail
  generalize (w.alloc (.cells #[.int .i64 0, .int .i64 0, .int .i64 0, .int .i64 0, .int .i64 0, .int .i64 3, .int .i64 4, .int .i64 0, .int .i64 0, .int .i64 4, .int .i64 0, .int .i64 0] 28)).alloc (.cells #[.slice (some ⟨w.heap.size, 0, none⟩) 3 3, .int .i64 1, .int .i64 5, .slice none 0 0, .slice none 0 0] 26) = W at *
  have hv : VenAt W (some ⟨w.heap.size, 0, none⟩) 3 3 none 0 0 none 0 0 V6 := ⟨.inr ⟨w.heap.size, 0, 3, rfl, by decide, by decide, Ven.Box.cells (k := 4) (enc := Ven.seatC) (fun _ => rfl) hbs2 rfl⟩, .inl ⟨⟨_, _, rfl⟩, rfl⟩, .inl ⟨⟨_, _, rfl⟩, rfl⟩⟩
  generalize w.heap.size + 1 = q at hx ⊢
  generalize hbn : w.heap.size = b at hv hbs2 hx hb ⊢
  have HB : Hid (∀ W', Below W.heap.size W W' → Below b w W') := fun W' h => hb.trans (h.mono (hbn ▸ hb.size))
  have HS := hid' hbs2
  have HX := hid' hx
  have HGR : Hid (∀ W', Below W.heap.size W W' → Calls Try.prog 16 #[.agg #[.slice (some ⟨b, 0, none⟩) 3 3, .int .i64 1, .int .i64 5, .slice none 0 0, .slice none 0 0]] W' fun e w' => ∃ v, e = .returned v ∧ RowsAt w' v [[2], [2], [0, 1]] ∧ Below W'.heap.size W' w') := fun W' h => by
    have := graph_any _ _ _ _ _ _ _ _ _ V6 W' (hv.next h)
    rw [graph_V6] at this; exact this
  have HNR : Hid (∀ W', Below W.heap.size W W' → Calls Try.prog 14 #[.agg #[.slice (some ⟨b, 0, none⟩) 3 3, .int .i64 1, .int .i64 5, .slice none 0 0, .slice none 0 0], .int .i64 0, .int .i64 0, .int .i64 5] W' fun e w' => ∃ v, e = .returned v ∧ Ints W'.heap.size w' v [0, 2] ∧ Below W'.heap.size W' w') := fun W' h => by
    have := near_any _ _ _ _ _ _ _ _ _ V6 0 0 5 W' (hv.next h)
    rw [near_V6] at this; exact this
  have HCL : Hid (∀ W', Below W.heap.size W W' → ∀ (i j : Int) (z : Bool), clashB V6 i j = z → Calls Try.prog 11 #[.agg #[.slice (some ⟨b, 0, none⟩) 3 3, .int .i64 1, .int .i64 5, .slice none 0 0, .slice none 0 0], .int .i64 i, .int .i64 j] W' fun e w' => e = .returned (.bool z) ∧ Below W'.heap.size W' w') := fun W' h i j z hz => by
    have := gclash_any _ _ _ _ _ _ _ _ _ V6 i j W' (hv.next h)
    rw [hz] at this; exact this
  clear hv hbs2 hx hb
  have H0 := hid' (Below.refl W.heap.size W)
  obtain ⟨v0, v1, v2, v3, v4⟩ := HX.out.five
  refine (HGR.out W H0.out).mono ?_
  rintro e w3 ⟨v, rfl, hrows, hb3⟩
  have H3 := hid' hb3
  clear hb3 v0 v1 v2 v3 v4 HGR
  obtain ⟨G, f, rfl, hrf, hin⟩ := hrows.one (by decide)
  have HRF := hid' hrf
  have HF0 : Hid (Ints (G + 1) w3 (f 0) [2]) := hin 0 (by decide)
  clear hrows hrf hin
  obtain ⟨v0, v1, v2, v3, v4⟩ := (HX.out.next H3.out).five
  go_wp2_with fail
  refine (HNR.out w3 H3.out).mono ?_
  rintro e w4 ⟨v, rfl, hrow, hb4⟩
  have H4 : Hid (Below W.heap.size W w4) := H3.out.trans (hb4.mono H3.out.size)
  have HRF4 := hid' (HRF.out.next hb4)
  have HF4 := hid' (HF0.out.next hb4)
  obtain ⟨nb, no, nc, rfl, hn1, hn2, hn3, hn4⟩ := hrow.at (by decide)
  have HN4 := hid' hn4
  have HNB := hid' hn3
  clear hb4 hrow v0 v1 v2 v3 v4 HNR HRF HF0 hn3 hn4
  go_wp2_with fail
  have hne : Nonempty (BelowOf w4) := ⟨⟨w4, Below.refl _ w4⟩⟩
  have HT : Hid (∀ p : BelowOf w4, Below W.heap.size W p.w) := fun p => H4.out.trans (p.h.mono H4.out.size)
  have v0 := fun p : BelowOf w4 => (HX.out.next (HT.out p)).cell 0 _ rfl
  have v1 := fun p : BelowOf w4 => (HX.out.next (HT.out p)).cell 1 _ rfl
  have v2 := fun p : BelowOf w4 => (HX.out.next (HT.out p)).cell 2 _ rfl
  have v3 := fun p : BelowOf w4 => (HX.out.next (HT.out p)).cell 3 _ rfl
  have v4 := fun p : BelowOf w4 => (HX.out.next (HT.out p)).cell 4 _ rfl
  have s0 := fun p : BelowOf w4 => (HS.out.next (HT.out p)).cell 0 _ rfl
  have s1 := fun p : BelowOf w4 => (HS.out.next (HT.out p)).cell 1 _ rfl
  have s2 := fun p : BelowOf w4 => (HS.out.next (HT.out p)).cell 2 _ rfl
  have s3 := fun p : BelowOf w4 => (HS.out.next (HT.out p)).cell 3 _ rfl
  have s4 := fun p : BelowOf w4 => (HS.out.next (HT.out p)).cell 4 _ rfl
  have s5 := fun p : BelowOf w4 => (HS.out.next (HT.out p)).cell 5 _ rfl
  have s6 := fun p : BelowOf w4 => (HS.out.next (HT.out p)).cell 6 _ rfl
  have s7 := fun p : BelowOf w4 => (HS.out.next (HT.out p)).cell 7 _ rfl
  obtain ⟨fb, fo, fc, hfv, hf1, hf2, hf3, hf4⟩ := HF4.out.at (by decide)
  have g0 : ∀ p : BelowOf w4, p.w.cell? ⟨G, 0, none⟩ = some (.slice (some ⟨fb, fo, none⟩) 1 fc) := fun p => by rw [((HRF4.out.next p.h).2 0 (by decide)).1, hfv]; rfl
  have g1 : ∀ p : BelowOf w4, p.w.cell? ⟨fb, fo, none⟩ = some (.int .i64 2) := fun p => by rw [p.h.cell (p := ⟨fb, fo, none⟩) hf3]; exact hf4 0 (by decide)
  have g2 : ∀ p : BelowOf w4, p.w.cell? ⟨nb, no + 1, none⟩ = some (.int .i64 2) := fun p => by rw [p.h.cell (p := ⟨nb, no + 1, none⟩) HNB.out]; exact HN4.out 1 (by decide)
  have c1 : ∀ (p : BelowOf w4) (i j : Int), Calls Try.prog 11 #[.agg #[.slice (some ⟨b, 0, none⟩) 3 3, .int .i64 1, .int .i64 5, .slice none 0 0, .slice none 0 0], .int .i64 i, .int .i64 j] p.w fun e w' => e = .returned (.bool (clashB V6 i j)) ∧ Below p.w.heap.size p.w w' := fun p i j => HCL.out p.w (HT.out p) i j _ rfl
  have k1 := clash_01
  have k2 := clash_02
  have k3 := clash_00
  have k4 := clash_09
  have f1 := far_any
  have k5 := far_25
  have k6 := far_beyond
  have z1 : ∀ W', Calls Try.prog 16 #[.agg #[.slice none 0 0, .int .i64 0, .int .i64 0, .slice none 0 0, .slice none 0 0]] W' fun e w' => e = .returned (.slice none 0 0) ∧ Below W'.heap.size W' w' := fun W' => by
    have := graph_any _ _ _ _ _ _ _ _ _ Z5 W' (ven_Z5 W')
    rw [graph_Z5] at this
    exact this.mono fun e w' ⟨v, he, hr, hb⟩ => ⟨by rw [he, hr.nil], hb⟩
  clear hf3 hf4 hfv
  simp only [List.append_eq, List.cons_append, List.nil_append]
  refine wp_region_quiet_below mixed (by kernel_rfl) ?_
  repeat (go_big_quiet_step ((first
    | (go_at_call 11; exact Calls.below_of (c1 _ _ _))
    | (go_at_call 9; exact Calls.below_of (f1 _ _ _ _ _ _ _ _ _))
    | (go_at_call 16; exact Calls.below_of (z1 _)))))
  refine wpQuiet_nil ?_
  intro _ hw'
  obtain ⟨p, hw''⟩ := hw'
  subst hw''
  have HF : Hid (Below w.heap.size w p.w) := by
    show Below w.heap.size w p.w
    rw [hbn]; exact HB.out _ (HT.out p)
  clear v0 v1 v2 v3 v4 s0 s1 s2 s3 s4 s5 s6 s7 g0 g1 g2
  go_wp2
  go_ret
  exact ⟨rfl, HF.out⟩
end Go.Proofs.Ytgpkdjhllekihaa.Geo
