/- parterrelaw7.told answers true. -/
import Derived.Test.YtdodmbfkcandgaaURuns
import Derived.Test.YtdodmbfkcandgaaVQuiet
import Derived.KernelRfl
namespace Go.Proofs.Ytdodmbfkcandgaa.Rnn
set_option linter.unusedVariables false
set_option maxRecDepth 100000
open Go.RowKit Go.Shelf
open Go.Proofs.Ytdodmbfkcandgaa.Ven (Seat Pole Ven VenAt venV seatV Box mayB mixed Sl SeatAt below_alloc ret_bool ret_int intC seatC Cells BelowOf wp_region_quiet_below Calls.below_of)

/-- The venue of told, and its marks. -/
def V7 : Ven := ⟨[⟨0, 0, 0, 0⟩, ⟨0, 10, 0, 0⟩, ⟨0, 21, 0, 0⟩, ⟨0, 31, 0, 0⟩, ⟨1, 35, 0, 0⟩], 10, 0, [], []⟩
def U5 : List Bool := [true, true, true, true, true]
def Z5 : Ven := ⟨[], 0, 0, [], []⟩
theorem runs_V7 : runsL V7 U5 = [[0, 1], [2, 3], [4]] := by kernel_rfl
theorem may_Z5 : mayB Z5 = false := by kernel_rfl
theorem of_22 : ofL V7 U5 2 2 = [2, 3] := by kernel_rfl
theorem ok_22 : ofOk V7 U5 2 2 = true := by kernel_rfl
theorem of_12 : ofL V7 U5 1 2 = [] := by kernel_rfl
theorem ok_12 : ofOk V7 U5 1 2 = false := by kernel_rfl
theorem next_0 : nextB V7 0 = true := by kernel_rfl
theorem next_1 : nextB V7 1 = false := by kernel_rfl
theorem next_3 : nextB V7 3 = false := by kernel_rfl
theorem next_4 : nextB V7 4 = false := by kernel_rfl
theorem long_0 : longB V7 U5 0 = 2 := by kernel_rfl
theorem long_1 : longB V7 [true] 0 = 1 := by kernel_rfl
theorem long_n : longB V7 [] 0 = 0 := by kernel_rfl
theorem ven_Z5 (w : World) : VenAt w none 0 0 none 0 0 none 0 0 Z5 := ⟨.inl ⟨⟨_, _, rfl⟩, rfl⟩, .inl ⟨⟨_, _, rfl⟩, rfl⟩, .inl ⟨⟨_, _, rfl⟩, rfl⟩⟩
/-- A number of a slice. -/
theorem Sl.num {w : World} {v : Value} {l : List Int} (h : Sl 1 intC w v l) (h0 : 0 < l.length) : ∃ b off cap, v = .slice (some ⟨b, off, none⟩) l.length cap ∧ b < w.heap.size ∧ ∀ j (hj : j < l.length), w.cell? ⟨b, off + j, none⟩ = some (.int .i64 l[j]) := by
  rcases h with ⟨_, hn⟩ | ⟨b, off, cap, hv, h1, h2, h3⟩
  · rw [hn] at h0; cases h0
  · exact ⟨b, off, cap, hv, h3.1, fun j hj => by simpa using h3.2 j hj 0 _ rfl⟩
set_option maxHeartbeats 16000000 in
theorem told_any (w : World) : Calls Try.prog 8 #[] w fun e w' => e = .returned (.bool true) ∧ Below w.heap.size w w' := by
  have x1 := Box.fresh w 46 #[.int .i64 0, .int .i64 0, .int .i64 0, .int .i64 0, .int .i64 0, .int .i64 10, .int .i64 0, .int .i64 0, .int .i64 0, .int .i64 21, .int .i64 0, .int .i64 0, .int .i64 0, .int .i64 31, .int .i64 0, .int .i64 0, .int .i64 1, .int .i64 35, .int .i64 0, .int .i64 0]
  have y1 := below_alloc (w.alloc (.cells #[.int .i64 0, .int .i64 0, .int .i64 0, .int .i64 0, .int .i64 0, .int .i64 10, .int .i64 0, .int .i64 0, .int .i64 0, .int .i64 21, .int .i64 0, .int .i64 0, .int .i64 0, .int .i64 31, .int .i64 0, .int .i64 0, .int .i64 1, .int .i64 35, .int .i64 0, .int .i64 0] 46)) (.cells #[.slice (some ⟨w.heap.size, 0, none⟩) 5 5, .int .i64 10, .int .i64 0, .slice none 0 0, .slice none 0 0] 26)
  have y2 := below_alloc ((w.alloc (.cells #[.int .i64 0, .int .i64 0, .int .i64 0, .int .i64 0, .int .i64 0, .int .i64 10, .int .i64 0, .int .i64 0, .int .i64 0, .int .i64 21, .int .i64 0, .int .i64 0, .int .i64 0, .int .i64 31, .int .i64 0, .int .i64 0, .int .i64 1, .int .i64 35, .int .i64 0, .int .i64 0] 46)).alloc (.cells #[.slice (some ⟨w.heap.size, 0, none⟩) 5 5, .int .i64 10, .int .i64 0, .slice none 0 0, .slice none 0 0] 26)) (.cells #[.bool true, .bool true, .bool true, .bool true, .bool true] 4)
  have x2 := (Box.fresh (w.alloc (.cells #[.int .i64 0, .int .i64 0, .int .i64 0, .int .i64 0, .int .i64 0, .int .i64 10, .int .i64 0, .int .i64 0, .int .i64 0, .int .i64 21, .int .i64 0, .int .i64 0, .int .i64 0, .int .i64 31, .int .i64 0, .int .i64 0, .int .i64 1, .int .i64 35, .int .i64 0, .int .i64 0] 46)) 26 #[.slice (some ⟨w.heap.size, 0, none⟩) 5 5, .int .i64 10, .int .i64 0, .slice none 0 0, .slice none 0 0]).next y2
  have x3 := Box.fresh ((w.alloc (.cells #[.int .i64 0, .int .i64 0, .int .i64 0, .int .i64 0, .int .i64 0, .int .i64 10, .int .i64 0, .int .i64 0, .int .i64 0, .int .i64 21, .int .i64 0, .int .i64 0, .int .i64 0, .int .i64 31, .int .i64 0, .int .i64 0, .int .i64 1, .int .i64 35, .int .i64 0, .int .i64 0] 46)).alloc (.cells #[.slice (some ⟨w.heap.size, 0, none⟩) 5 5, .int .i64 10, .int .i64 0, .slice none 0 0, .slice none 0 0] 26)) 4 #[.bool true, .bool true, .bool true, .bool true, .bool true]
  have hs := (x1.next y1).next y2
  have hb : Below w.heap.size w (((w.alloc (.cells #[.int .i64 0, .int .i64 0, .int .i64 0, .int .i64 0, .int .i64 0, .int .i64 10, .int .i64 0, .int .i64 0, .int .i64 0, .int .i64 21, .int .i64 0, .int .i64 0, .int .i64 0, .int .i64 31, .int .i64 0, .int .i64 0, .int .i64 1, .int .i64 35, .int .i64 0, .int .i64 0] 46)).alloc (.cells #[.slice (some ⟨w.heap.size, 0, none⟩) 5 5, .int .i64 10, .int .i64 0, .slice none 0 0, .slice none 0 0] 26)).alloc (.cells #[.bool true, .bool true, .bool true, .bool true, .bool true] 4)) := (((Below.refl _ w).alloc (Nat.le_refl _) _).alloc (by simp) _).alloc (by simp; omega) _
  simp only [World.size_alloc] at x2 x3
  clear x1 y1 y2
  go_enter Try.func8, Try.ntmps8
  go_wp2_with fail
  generalize (((w.alloc (.cells #[.int .i64 0, .int .i64 0, .int .i64 0, .int .i64 0, .int .i64 0, .int .i64 10, .int .i64 0, .int .i64 0, .int .i64 0, .int .i64 21, .int .i64 0, .int .i64 0, .int .i64 0, .int .i64 31, .int .i64 0, .int .i64 0, .int .i64 1, .int .i64 35, .int .i64 0, .int .i64 0] 46)).alloc (.cells #[.slice (some ⟨w.heap.size, 0, none⟩) 5 5, .int .i64 10, .int .i64 0, .slice none 0 0, .slice none 0 0] 26)).alloc (.cells #[.bool true, .bool true, .bool true, .bool true, .bool true] 4)) = W at *
  have hv : VenAt W (some ⟨w.heap.size, 0, none⟩) 5 5 none 0 0 none 0 0 V7 := ⟨.inr ⟨w.heap.size, 0, 5, rfl, by decide, by decide, Ven.Box.cells (k := 4) (enc := Ven.seatC) (fun _ => rfl) hs rfl⟩, .inl ⟨⟨_, _, rfl⟩, rfl⟩, .inl ⟨⟨_, _, rfl⟩, rfl⟩⟩
  have hu : MarksAt W (some ⟨w.heap.size + 1 + 1, 0, none⟩) 5 5 U5 := .inr ⟨w.heap.size + 1 + 1, 0, 5, rfl, by decide, by decide, Ven.Box.cells (k := 1) (enc := boolC) (fun _ => rfl) x3 rfl⟩
  have hu1 : MarksAt W (some ⟨w.heap.size + 1 + 1, 0, none⟩) 1 5 [true] := .inr ⟨w.heap.size + 1 + 1, 0, 5, rfl, by decide, by decide, hu.some_cells (by decide) |>.1, fun i hi j u hj => by
    have h0 : i = 0 := by simp at hi; omega
    subst h0
    exact (hu.some_cells (by decide)).2 0 (by decide) j u hj⟩
  have hu0 : ∀ W, MarksAt W none 0 0 [] := fun W => .inl ⟨⟨_, _, rfl⟩, rfl⟩
  generalize w.heap.size + 1 + 1 = m at *
  generalize w.heap.size + 1 = q at *
  generalize hbn : w.heap.size = b at *
  have HB : Hid (∀ W', Below W.heap.size W W' → Below b w W') := fun W' h => hb.trans (h.mono (hbn ▸ hb.size))
  have HX := hid' x2
  have HRU : Hid (∀ W', Below W.heap.size W W' → Calls Try.prog 17 #[.agg #[.slice (some ⟨b, 0, none⟩) 5 5, .int .i64 10, .int .i64 0, .slice none 0 0, .slice none 0 0], .slice (some ⟨m, 0, none⟩) 5 5] W' fun e w' => ∃ v, e = .returned v ∧ RowsS w' v [[0, 1], [2, 3], [4]] ∧ Below W'.heap.size W' w') := fun W' h => by
    have := runs_any _ _ _ _ _ _ _ _ _ _ _ _ V7 U5 W' (hv.next h) (hu.next h)
    rw [runs_V7] at this; exact this
  have HRZ : Hid (∀ W', Calls Try.prog 17 #[.agg #[.slice none 0 0, .int .i64 0, .int .i64 0, .slice none 0 0, .slice none 0 0], .slice (some ⟨m, 0, none⟩) 5 5] W' fun e w' => e = .returned (.slice none 0 0) ∧ Below W'.heap.size W' w') := fun W' => runs_not _ _ _ _ _ _ _ _ _ _ _ _ Z5 may_Z5 W' (ven_Z5 W')
  have HO2 : Hid (∀ W', Below W.heap.size W W' → Calls Try.prog 9 #[.agg #[.slice (some ⟨b, 0, none⟩) 5 5, .int .i64 10, .int .i64 0, .slice none 0 0, .slice none 0 0], .slice (some ⟨m, 0, none⟩) 5 5, .int .i64 2, .int .i64 2] W' fun e w' => ∃ v, e = .returned (.tuple #[v, .bool true]) ∧ Sl 1 intC w' v [2, 3] ∧ Below W'.heap.size W' w') := fun W' h => by
    have := of_any _ _ _ _ _ _ _ _ _ _ _ _ V7 U5 2 2 W' (hv.next h) (hu.next h)
    rw [of_22, ok_22] at this; exact this
  have HO1 : Hid (∀ W', Below W.heap.size W W' → Calls Try.prog 9 #[.agg #[.slice (some ⟨b, 0, none⟩) 5 5, .int .i64 10, .int .i64 0, .slice none 0 0, .slice none 0 0], .slice (some ⟨m, 0, none⟩) 5 5, .int .i64 1, .int .i64 2] W' fun e w' => ∃ v, e = .returned (.tuple #[v, .bool false]) ∧ Below W'.heap.size W' w') := fun W' h => by
    have := of_any _ _ _ _ _ _ _ _ _ _ _ _ V7 U5 1 2 W' (hv.next h) (hu.next h)
    rw [of_12, ok_12] at this; exact this.mono fun e w' ⟨v, h1, _, h3⟩ => ⟨v, h1, h3⟩
  have HN : Hid (∀ (a : Int) (z : Bool), nextB V7 a = z → ∀ W', Below W.heap.size W W' → Calls Try.prog 11 #[.agg #[.slice (some ⟨b, 0, none⟩) 5 5, .int .i64 10, .int .i64 0, .slice none 0 0, .slice none 0 0], .int .i64 a] W' fun e w' => e = .returned (.bool z) ∧ Below W'.heap.size W' w') := fun a z hz W' h => by
    have := nexts_any _ _ _ _ _ _ _ _ _ V7 a W' (hv.next h)
    rw [hz] at this; exact this
  have HL0 : Hid (∀ W', Below W.heap.size W W' → Calls Try.prog 13 #[.agg #[.slice (some ⟨b, 0, none⟩) 5 5, .int .i64 10, .int .i64 0, .slice none 0 0, .slice none 0 0], .slice (some ⟨m, 0, none⟩) 5 5, .int .i64 0] W' fun e w' => e = .returned (.int .i64 2) ∧ Below W'.heap.size W' w') := fun W' h => by
    have := long_any _ _ _ _ _ _ _ _ _ _ _ _ V7 U5 0 W' (hv.next h) (hu.next h)
    rw [long_0] at this; exact this
  have HL1 : Hid (∀ W', Below W.heap.size W W' → Calls Try.prog 13 #[.agg #[.slice (some ⟨b, 0, none⟩) 5 5, .int .i64 10, .int .i64 0, .slice none 0 0, .slice none 0 0], .slice (some ⟨m, 0, none⟩) 1 5, .int .i64 0] W' fun e w' => e = .returned (.int .i64 1) ∧ Below W'.heap.size W' w') := fun W' h => by
    have := long_any _ _ _ _ _ _ _ _ _ _ _ _ V7 [true] 0 W' (hv.next h) (hu1.next h)
    rw [long_1] at this; exact this
  have HLN : Hid (∀ W', Below W.heap.size W W' → Calls Try.prog 13 #[.agg #[.slice (some ⟨b, 0, none⟩) 5 5, .int .i64 10, .int .i64 0, .slice none 0 0, .slice none 0 0], .slice none 0 0, .int .i64 0] W' fun e w' => e = .returned (.int .i64 0) ∧ Below W'.heap.size W' w') := fun W' h => by
    have := long_any _ _ _ _ _ _ _ _ _ _ _ _ V7 [] 0 W' (hv.next h) (hu0 W')
    rw [long_n] at this; exact this
  clear hv hu hu1 hu0 hs x2 x3 hb
  have H0 := hid' (Below.refl W.heap.size W)
  refine (HRU.out W H0.out).mono ?_
  rintro e w3 ⟨v, rfl, hrows, hb3⟩
  have H3 := hid' hb3
  clear hb3 HRU H0
  obtain ⟨ra, rc, rfl⟩ := hrows.slice
  have HRW := hid' hrows
  clear hrows
  obtain ⟨v0, v1, v2, v3, v4⟩ := (HX.out.next H3.out).five
  go_wp2_with fail
  refine (HO2.out w3 H3.out).mono ?_
  rintro e w4 ⟨v, rfl, hsl, hb4⟩
  have H4 := hid' (H3.out.trans (hb4.mono H3.out.size))
  have HR4 := hid' (HRW.out.next hb4)
  obtain ⟨sb, so, sc, rfl, hs1, hs2⟩ := Sl.num hsl (by decide)
  have HS4 := hid' (hs2 1 (by decide))
  have HSB := hid' hs1
  clear hb4 hsl v0 v1 v2 v3 v4 HRW H3 HO2 hs1 hs2
  obtain ⟨v0, v1, v2, v3, v4⟩ := (HX.out.next H4.out).five
  go_wp2_with fail
  refine (HO1.out w4 H4.out).mono ?_
  rintro e w5 ⟨vn, rfl, hb5⟩
  have H5 := hid' (H4.out.trans (hb5.mono H4.out.size))
  have HR5 := hid' (HR4.out.next hb5)
  have HS5 : Hid (w5.cell? ⟨sb, so + 1, none⟩ = some (.int .i64 3)) := by
    show _ = _
    rw [hb5.cell (p := ⟨sb, so + 1, none⟩) HSB.out]; exact HS4.out
  have HSB5 : Hid (sb < w5.heap.size) := Nat.lt_of_lt_of_le HSB.out hb5.size
  clear hb5 v0 v1 v2 v3 v4 HR4 HS4 HSB H4 HO1
  go_wp2_with fail
  obtain ⟨_, G, xb, xd, rfl, hg0, hg1, hg2⟩ := RowsS.at HR5.out 0 (by decide)
  obtain ⟨_, G', yb, yd, hGG, hg3, hg4, hg5⟩ := RowsS.at HR5.out 2 (by decide)
  injection hGG with hGG
  injection hGG with hGG
  subst hGG
  obtain ⟨nb, no, nc, hn, hn1, hn2⟩ := Sl.num hg5 (by decide)
  have r0 : ∀ p : BelowOf w5, p.w.cell? ⟨G, 0, none⟩ = some (.slice xb 2 xd) := fun p => by rw [p.h.cell (p := ⟨G, 0, none⟩) hg0]; exact hg1
  have r1 : ∀ p : BelowOf w5, p.w.cell? ⟨G, 2, none⟩ = some (.slice (some ⟨nb, no, none⟩) 1 nc) := fun p => by rw [p.h.cell (p := ⟨G, 2, none⟩) hg0, hg4, hn]; rfl
  have r2 : ∀ p : BelowOf w5, p.w.cell? ⟨nb, no, none⟩ = some (.int .i64 4) := fun p => by rw [p.h.cell (p := ⟨nb, no, none⟩) hn1]; exact hn2 0 (by decide)
  have s0 : ∀ p : BelowOf w5, p.w.cell? ⟨sb, so + 1, none⟩ = some (.int .i64 3) := fun p => by rw [p.h.cell (p := ⟨sb, so + 1, none⟩) HSB5.out]; exact HS5.out
  have hne : Nonempty (BelowOf w5) := ⟨⟨w5, Below.refl _ w5⟩⟩
  have HT : Hid (∀ p : BelowOf w5, Below W.heap.size W p.w) := fun p => H5.out.trans (p.h.mono H5.out.size)
  have v0 := fun p : BelowOf w5 => (HX.out.next (HT.out p)).cell 0 _ rfl
  have v1 := fun p : BelowOf w5 => (HX.out.next (HT.out p)).cell 1 _ rfl
  have v2 := fun p : BelowOf w5 => (HX.out.next (HT.out p)).cell 2 _ rfl
  have v3 := fun p : BelowOf w5 => (HX.out.next (HT.out p)).cell 3 _ rfl
  have v4 := fun p : BelowOf w5 => (HX.out.next (HT.out p)).cell 4 _ rfl
  have n0 := fun p : BelowOf w5 => HN.out 0 _ next_0 p.w (HT.out p)
  have n1 := fun p : BelowOf w5 => HN.out 1 _ next_1 p.w (HT.out p)
  have n3 := fun p : BelowOf w5 => HN.out 3 _ next_3 p.w (HT.out p)
  have n4 := fun p : BelowOf w5 => HN.out 4 _ next_4 p.w (HT.out p)
  have l0 := fun p : BelowOf w5 => HL0.out p.w (HT.out p)
  have l1 := fun p : BelowOf w5 => HL1.out p.w (HT.out p)
  have ln := fun p : BelowOf w5 => HLN.out p.w (HT.out p)
  have z0 := HRZ.out
  clear hg0 hg1 hg2 hg3 hg4 hg5 hn hn1 hn2 HR5 HS5 HSB5 HL0 HL1 HLN HRZ
  simp only [List.append_eq, List.cons_append, List.nil_append]
  refine wp_region_quiet_below mixed (by kernel_rfl) ?_
  repeat (go_big_quiet_step ((first
    | (go_at_call_of 11 (Value.int IntKind.i64 1); exact Calls.below_of (n1 _))
    | (go_at_call_of 11 (Value.int IntKind.i64 3); exact Calls.below_of (n3 _))
    | (go_at_call_of 11 (Value.int IntKind.i64 4); exact Calls.below_of (n4 _))
    | (go_at_call 11; exact Calls.below_of (n0 _))
    | (go_at_call_of 13 (Value.slice (some ⟨m, 0, none⟩) 5 5); exact Calls.below_of (l0 _))
    | (go_at_call_of 13 (Value.slice (some ⟨m, 0, none⟩) 1 5); exact Calls.below_of (l1 _))
    | (go_at_call 13; exact Calls.below_of (ln _))
    | (go_at_call 17; exact Calls.below_of (z0 _)))))
  refine wpQuiet_nil ?_
  intro _ hw'
  obtain ⟨p, hw''⟩ := hw'
  subst hw''
  have HF : Hid (Below b w p.w) := HB.out _ (HT.out p)
  clear v0 v1 v2 v3 v4 r0 r1 r2 s0
  go_wp2
  go_ret
  exact ⟨rfl, HF.out⟩
end Go.Proofs.Ytdodmbfkcandgaa.Rnn
