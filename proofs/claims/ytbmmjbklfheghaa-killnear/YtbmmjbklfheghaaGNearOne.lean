/- geom.Near by its contract. -/
import Derived.Test.YtbmmjbklfheghaaGThoseN
namespace Go.Proofs.Ytbmmjbklfheghaa.Geo
set_option linter.unusedVariables false
set_option maxRecDepth 100000
open Go.RowKit Go.Shelf
open Go.Proofs.Ytbmmjbklfheghaa.Ven (Seat Pole Ven VenAt venV seatV seatC intC Box mayB mixed SeatAt Cells below_alloc coordB standsB seatB seatsB_iff distB ret_bool ret_int BelowOf info3 row_next row_slice may_any)

theorem may_stand {V : Ven} (h : mayB V = true) : AllStand V.seats := by
  intro i hi
  have h1 : Ven.seatsB V.seats = true := by
    unfold mayB at h
    simp only [Bool.and_eq_true] at h
    exact h.1.1.1.1
  have h2 := ((seatsB_iff _).1 h1).2.2.1 V.seats[i] (List.getElem_mem hi)
  unfold seatB at h2
  simp only [Bool.and_eq_true] at h2
  exact h2.1.2
theorem may_few {V : Ven} (h : mayB V = true) : 1 ≤ V.seats.length ∧ V.seats.length ≤ 4096 := by
  have h1 : Ven.seatsB V.seats = true := by
    unfold mayB at h
    simp only [Bool.and_eq_true] at h
    exact h.1.1.1.1
  have h2 := (seatsB_iff _).1 h1
  exact ⟨h2.1, h2.2.1⟩
theorem may_rad {V : Ven} (h : mayB V = true) : 0 ≤ V.radius ∧ V.radius ≤ 1048576 := by
  have h1 : distB V.radius = true := by
    unfold mayB at h
    simp only [Bool.and_eq_true] at h
    exact h.1.1.2
  unfold distB at h1
  simpa using h1
/-- A row that a call made, of numbers. -/
def Ints (base : Nat) (W : World) (v : Value) (l : List Int) : Prop := W.ownsRow base 3 1 v l.length (l.flatMap intC)
theorem Ints.nil (base : Nat) (W : World) : Ints base W (.slice none 0 0) [] := World.ownsRow_nil _ _ _ _
theorem Ints.next {base : Nat} {W W' : World} {v : Value} {l : List Int} (h : Ints base W v l) (hb : Below W.heap.size W W') : Ints base W' v l := row_next h hb
theorem Ints.sl {base : Nat} {W : World} {v : Value} {l : List Int} (h : Ints base W v l) : Ven.Sl 1 intC W v l := Ven.row_sl Ven.intC_len h
theorem row_base {W : World} {base base' : Nat} {e : TypeId} {size : Nat} {v : Value} {n : Nat} {xs : List Value} (h : W.ownsRow base e size v n xs) (hb : base' ≤ base) : W.ownsRow base' e size v n xs := by
  refine ⟨h.1, ?_⟩
  rcases h.2 with hn | ⟨g, cap, cur, hv, hg, hr⟩
  · exact Or.inl hn
  · exact Or.inr ⟨g, cap, cur, hv, by omega, hr⟩
set_option maxHeartbeats 4000000 in
theorem near_any (a1 a2 a3 : Option Addr) (n1 c1 n2 c2 n3 c3 : Nat) (V : Ven) (x y r : Int) (w : World) (h : VenAt w a1 n1 c1 a2 n2 c2 a3 n3 c3 V) :
    Calls Try.prog 17 #[venV a1 n1 c1 V.gap V.radius a2 n2 c2 a3 n3 c3, .int .i64 x, .int .i64 y, .int .i64 r] w fun e w' => ∃ v, e = .returned v ∧ Ints w.heap.size w' v (nearL V x y r) ∧ Below w.heap.size w w' := by
  have hst := stands_any x y
  have hft := fits_reach r
  have hb0 := (below_alloc w (.cells #[.slice a1 n1 c1, .int .i64 V.gap, .int .i64 V.radius, .slice a2 n2 c2, .slice a3 n3 c3] 26)).alloc (by simp) (.cells #[.int .i64 r] 3)
  have hx := (Box.fresh w 26 #[.slice a1 n1 c1, .int .i64 V.gap, .int .i64 V.radius, .slice a2 n2 c2, .slice a3 n3 c3]).next (below_alloc _ (.cells #[.int .i64 r] 3))
  have hr := Box.fresh (w.alloc (.cells #[.slice a1 n1 c1, .int .i64 V.gap, .int .i64 V.radius, .slice a2 n2 c2, .slice a3 n3 c3] 26)) 3 #[.int .i64 r]
  rw [World.size_alloc] at hr
  have hmay := fun W (hb : Below w.heap.size w W) => may_any a1 a2 a3 n1 c1 n2 c2 n3 c3 V W (h.next hb)
  have hnl : nearL V x y r = if (standsB x y && (decide (1 ≤ r ∧ r ≤ 1048576) && mayB V)) = true then thoseN V.seats.length (fun i => nearS V.seats[i]! ⟨0, x, y, 0⟩ r) else [] := rfl
  have HN := hid' hnl
  have HV := hid' h
  have HST : Hid (standsB x y = true → decide (1 ≤ r ∧ r ≤ 1048576) = true → mayB V = true → (coordB x = true ∧ coordB y = true) ∧ (1 ≤ r ∧ r ≤ 1048576) ∧ AllStand V.seats ∧ 1 ≤ V.seats.length ∧ V.seats.length ≤ 4096) := fun h1 h2 h3 => ⟨stands_iff.1 h1, of_decide_eq_true h2, may_stand h3, may_few h3⟩
  generalize nearL V x y r = res at HN ⊢
  clear hnl h
  generalize hs : standsB x y = p at hst HN HST
  generalize hf : decide (1 ≤ r ∧ r ≤ 1048576) = q at hft HN HST
  generalize hmb : mayB V = m at hmay HN HST
  clear hs hf hmb
  have hv0 := hx.cell 0 _ rfl
  have hv1 := hx.cell 1 _ rfl
  have hv2 := hx.cell 2 _ rfl
  have hv3 := hx.cell 3 _ rfl
  have hv4 := hx.cell 4 _ rfl
  have hr0 := hr.cell 0 _ rfl
  cases p with
  | false =>
    obtain rfl : res = [] := by have := HN.out; simpa using this
    go_enter Try.func17, Try.ntmps17
    go_wp2_with fail
    refine (hst _).mono ?_
    rintro e w1 ⟨rfl, rfl⟩
    go_wp2
    go_ret
    exact ⟨_, rfl, Ints.nil _ _, hb0⟩
  | true =>
    cases q with
    | false =>
      obtain rfl : res = [] := by have := HN.out; simpa using this
      go_enter Try.func17, Try.ntmps17
      go_wp2_with fail
      refine (hst _).mono ?_
      rintro e w1 ⟨rfl, rfl⟩
      go_wp2_with fail
      refine (hft _).mono ?_
      rintro e w1 ⟨rfl, rfl⟩
      go_wp2
      go_ret
      exact ⟨_, rfl, Ints.nil _ _, hb0⟩
    | true =>
      cases m with
      | false =>
        obtain rfl : res = [] := by have := HN.out; simpa using this
        go_enter Try.func17, Try.ntmps17
        go_wp2_with fail
        refine (hst _).mono ?_
        rintro e w1 ⟨rfl, rfl⟩
        go_wp2_with fail
        refine (hft _).mono ?_
        rintro e w1 ⟨rfl, rfl⟩
        go_wp2_with fail
        refine (hmay _ hb0).mono ?_
        rintro e w1 ⟨rfl, hb1⟩
        have HB := hid' (hb0.trans (hb1.mono hb0.size))
        clear hb0 hb1 hx hr hv0 hv1 hv2 hv3 hv4 hr0 hmay
        go_wp2
        go_ret
        exact ⟨_, rfl, Ints.nil _ _, HB.out⟩
      | true =>
        have hres : res = thoseN V.seats.length (fun i => nearS V.seats[i]! ⟨0, x, y, 0⟩ r) := by have := HN.out; simpa using this
        obtain ⟨t1, t2, t4, t5⟩ := HST.out rfl rfl rfl
        have hn1 := HV.out.s.len
        subst hn1
        obtain ⟨b, off, rfl, hC⟩ := Ven.cells_of_pos HV.out.s (i := 0) (by omega)
        go_enter Try.func17, Try.ntmps17
        go_wp2_with fail
        refine (hst _).mono ?_
        rintro e w1 ⟨rfl, rfl⟩
        go_wp2_with fail
        refine (hft _).mono ?_
        rintro e w1 ⟨rfl, rfl⟩
        go_wp2_with fail
        refine (hmay _ hb0).mono ?_
        rintro e w1 ⟨rfl, hb1⟩
        have hb2 := below_alloc w1 (.cells #[.int .i64 0, .int .i64 x, .int .i64 y, .int .i64 0] 44)
        have hB2 := (hb0.trans (hb1.mono hb0.size)).trans (hb2.mono (hb0.trans (hb1.mono hb0.size)).size)
        have hx2 := (hx.next hb1).next hb2
        have hr2 := (hr.next hb1).next hb2
        have hs2 := Box.fresh w1 44 #[.int .i64 0, .int .i64 x, .int .i64 y, .int .i64 0]
        have hxl := (hx.next hb1).lt
        have hC2 := hC.next hB2
        clear hx hr hb0 hb1 hb2 hv0 hv1 hv2 hv3 hv4 hr0 hmay hC HN HST
        have v0 := hx2.cell 0 _ rfl
        have v1 := hx2.cell 1 _ rfl
        have v2 := hx2.cell 2 _ rfl
        have v3 := hx2.cell 3 _ rfl
        have v4 := hx2.cell 4 _ rfl
        go_wp2_with fail
        generalize w1.alloc (.cells #[.int .i64 0, .int .i64 x, .int .i64 y, .int .i64 0] 44) = W at *
        have hth := those_near (some ⟨b, off, none⟩) a2 a3 V.seats.length c1 n2 c2 n3 c3 V.gap V.radius t5.2 w.heap.size w1.heap.size (w.heap.size + 1) (fun i => nearS V.seats[i]! ⟨0, x, y, 0⟩ r) W (fun W' hW k hk => by
          have := nearCl_any a2 a3 b off c1 n2 c2 n3 c3 V.seats V.gap V.radius k hk x y r t4 (stands_iff.2 t1) (by omega) t2.2 w.heap.size w1.heap.size (w.heap.size + 1) W' (hx2.next hW) (hC2.next hW) (hs2.next hW) (hr2.next hW)
          rw [← getElem!_pos V.seats k hk] at this
          exact this)
        refine hth.mono ?_
        rintro e w2 ⟨v, rfl, hrow, hb3⟩
        have HR := hid' (row_base hrow hB2.size)
        have HB := hid' (hB2.trans (hb3.mono hB2.size))
        clear hth hrow hb3 hx2 hr2 hs2 hC2 v0 v1 v2 v3 v4 hB2 hxl
        go_wp2
        go_ret
        refine ⟨_, rfl, ?_, HB.out⟩
        rw [hres]
        exact HR.out
end Go.Proofs.Ytbmmjbklfheghaa.Geo
