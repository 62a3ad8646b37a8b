/- parterrelaw3.Make of whatever numbers. -/
import Derived.Test.YtoaapngfbidllaaMake
namespace Go.Proofs.Ytoaapngfbidllaa
set_option linter.unusedVariables false
open Go.RowKit Go.Shelf

/-- Numbers that came in. -/
def IntsAt (w : World) (a : Option Addr) (len cap : Nat) (l : List Int) : Prop :=
  l.length = len ∧ len ≤ maxLen ∧ (len = 0 ∨ ∃ b off, a = some ⟨b, off, none⟩ ∧ Cells 1 intC w b off l)
set_option maxRecDepth 100000 in
set_option maxHeartbeats 2000000 in
theorem make_zero (a : Option Addr) (cap : Nat) (most : Nat) (h2 : most ≤ 30) (h1 : 1 ≤ most) (w : World) :
    Calls Try.prog 20 #[.slice a 0 cap, .int .i64 most] w fun e w' => Made w most e w' := by
  have hst := mst_start w
  go_enter Try.func20, Try.ntmps20
  go_wp2_with fail
  go_loopg [6, 7, 8, 9, 10] 0 (fun g s6 s7 s8 s9 s10 wr => s6 = .int .i64 0 ∧ s7 = .int .i64 0 ∧ s8 = .int .i64 0 ∧ MSt w wr (some ⟨w.heap.size + 1, 0, none⟩) 1 none 0 none 0 ⟨[⟨0, 0, 0, 0⟩], 10, 0, [], []⟩)
  case atStart => exact ⟨rfl, rfl, rfl, hst⟩
  case round =>
    clear hst
    obtain ⟨rfl, rfl, rfl, st⟩ := hrel
    obtain ⟨y0', y1, y2, y3, y4⟩ := st.b5.five
    obtain ⟨z0, z1, z2, z3, z4⟩ := st.b4.five
    have zl := st.b4.lt
    have yl := st.b5.lt
    have zf0 := st.b4.frozen 0
    have zf1 := st.b4.frozen 1
    have zf2 := st.b4.frozen 2
    have zf3 := st.b4.frozen 3
    have zf4 := st.b4.frozen 4
    simp only [List.length_cons, List.length_nil] at y0' y3 y4
    go_wp2_with fail
    refine bodyPost_ret (v := venV (some ⟨w.heap.size + 1, 0, none⟩) 1 1 10 0 none 0 0 none 0 0) (by simp [results, Try.results20, go_sem, z0, z1, z2, z3, z4]) rfl ⟨⟨[⟨0, 0, 0, 0⟩], 10, 0, [], []⟩, some ⟨w.heap.size + 1, 0, none⟩, 1, none, 0, none, 0, 0, 0, rfl, ?_, mk_start, h1, ?_⟩
    · exact ⟨row_sl seatC_len (row_set5 st.b4 (by decide) st.so _ _ _ _ _), row_sl intC_len (row_set5 st.b4 (by decide) st.ko _ _ _ _ _), row_sl poleC_len (row_set5 st.b4 (by decide) st.po _ _ _ _ _)⟩
    · exact Below.setCell (Below.setCell (Below.setCell (Below.setCell (Below.setCell st.below (Nat.le_refl _) _) (Nat.le_refl _) _) (Nat.le_refl _) _) (Nat.le_refl _) _) (Nat.le_refl _) _
theorem make_any (a : Option Addr) (len cap : Nat) (l : List Int) (most : Nat) (h2 : most ≤ 30) (h1 : 1 ≤ most) (w : World) (h : IntsAt w a len cap l) :
    Calls Try.prog 20 #[.slice a len cap, .int .i64 most] w fun e w' => Made w most e w' := by
  obtain ⟨hl, hm, h0 | ⟨b, off, rfl, hC⟩⟩ := h
  · subst h0; exact make_zero a cap most h2 h1 w
  · subst hl; exact make_some l b off cap most h2 h1 hm w hC

/-! Seats that stand at one place of one row. -/
def keyNe (a b : Seat) : Prop := ¬ (a.row = b.row ∧ a.x = b.x)
theorem keyNe_symm {a b : Seat} (h : keyNe a b) : keyNe b a := fun h' => h ⟨h'.1.symm, h'.2.symm⟩
theorem lt_keyNe {a b : Seat} (h : ltS a b = true) : keyNe a b := by rw [ltS_iff] at h; unfold keyNe; omega
theorem pick_perm {l : List Seat} {ord : List Nat} (h : IsOrder l ord) : (pick l ord).Perm l := by
  have e : (List.range l.length).map (fun i => l[i]!) = l := by
    apply List.ext_getElem
    · simp
    · intro i h1 h2
      simp only [List.getElem_map, List.getElem_range]
      exact getElem!_pos l i h2
  have := h.perm.map (fun i => l[i]!)
  rw [e] at this
  exact this
theorem pick_sorted {l : List Seat} {ord : List Nat} (h : IsOrder l ord) : (pick l ord).Pairwise (fun a b => ltS b a = false) := by
  unfold pick; rw [List.pairwise_map]; exact h.sorted
/-- Where no two stand at one place, an order rises. -/
theorem pick_rising {l : List Seat} {ord : List Nat} (h : IsOrder l ord) (hk : l.Pairwise keyNe) : (pick l ord).Pairwise (fun a b => ltS a b = true) := by
  have h1 := (pick_perm h).symm.pairwise hk (fun hab => keyNe_symm hab)
  have h2 := pick_sorted h
  exact (h1.and h2).imp fun {a b} ⟨p, q⟩ => by
    rw [ltS_iff]
    have : ¬ ltS b a = true := by rw [q]; simp
    rw [ltS_iff] at this
    unfold keyNe at p
    omega
theorem rising_keys {l : List Seat} (h : l.Pairwise (fun a b => ltS a b = true)) : l.Pairwise keyNe := h.imp fun h => lt_keyNe h
theorem not_rising {l : List Seat} {ord : List Nat} (h : IsOrder l ord) (hk : ¬ l.Pairwise keyNe) : ¬ (pick l ord).Pairwise (fun a b => ltS a b = true) := fun hr =>
  hk ((pick_perm h).pairwise (rising_keys hr) (fun hab => keyNe_symm hab))
/-! VenueTwo's venue. -/
def twoV (V : Ven) (j : Nat) (s : Seat) : Ven := ⟨V.seats.take j ++ [s] ++ V.seats.drop j, V.gap, V.radius, [], []⟩
theorem twoV_len (V : Ven) (j : Nat) (s : Seat) (hj : j ≤ V.seats.length) : (twoV V j s).seats.length = V.seats.length + 1 := by simp [twoV]; omega
theorem twoV_perm (V : Ven) (j : Nat) (s : Seat) : (twoV V j s).seats.Perm (s :: V.seats) := by
  unfold twoV
  have : (V.seats.take j ++ [s] ++ V.seats.drop j).Perm ([s] ++ V.seats.take j ++ V.seats.drop j) := (List.perm_append_comm).append_right _
  refine this.trans ?_
  rw [List.append_assoc, List.take_append_drop]; exact List.Perm.refl _
theorem two_same {V : Ven} {row x : Int} (h : MkOK V row x) (j k : Nat) (hk : k < V.seats.length) {r : Option Ven} (hr : NormTo (twoV V j V.seats[k]) r) : r = none := by
  refine hr.of_none fun ord ho => not_rising ho ?_
  intro hp
  have := (twoV_perm V j V.seats[k]).pairwise hp (fun hab => keyNe_symm hab)
  rw [List.pairwise_cons] at this
  exact this.1 _ (List.getElem_mem hk) ⟨rfl, rfl⟩
theorem two_other {V : Ven} {row x : Int} (h : MkOK V row x) (hl : V.seats.length ≤ 30) (j k : Nat) (hj : j ≤ V.seats.length) (hk : k < V.seats.length) {r : Option Ven} (hr : NormTo (twoV V j { V.seats[k] with row := 900 }) r) :
    ∃ U, r = some U ∧ mayB U = true ∧ U.seats.length = V.seats.length + 1 := by
  have hkeys : (twoV V j { V.seats[k] with row := 900 }).seats.Pairwise keyNe := by
    refine (twoV_perm V j _).symm.pairwise ?_ (fun hab => keyNe_symm hab)
    rw [List.pairwise_cons]
    refine ⟨fun s hs => ?_, rising_keys h.rise⟩
    have := h.last s hs
    have := h.r1
    unfold keyNe
    show ¬ ((900 : Int) = s.row ∧ _)
    omega
  have hlen := twoV_len V j { V.seats[k] with row := 900 } hj
  rcases hr with ⟨_, h'⟩ | ⟨_, _, _, ord, ho, rfl⟩
  · rcases h' with h' | h' | h'
    · omega
    · simp [twoV] at h'
    · simp [twoV] at h'
  · have hpl : (pick (twoV V j { V.seats[k] with row := 900 }).seats ord).length = V.seats.length + 1 := by
      rw [(pick_perm ho).length_eq]; exact hlen
    have hm : mayB (normU (twoV V j { V.seats[k] with row := 900 }) ord) = true := by
      have h1 : seatsB (pick (twoV V j { V.seats[k] with row := 900 }).seats ord) = true := by
        refine (seatsB_iff _).2 ⟨by omega, by omega, ?_, pick_rising ho hkeys⟩
        intro s hs
        have hs' := (twoV_perm V j _).mem_iff.1 ((pick_perm ho).mem_iff.1 hs)
        rcases List.mem_cons.1 hs' with rfl | hs'
        · have hb := h.ok _ (List.getElem_mem hk)
          unfold seatB at hb ⊢
          simp only [Bool.and_eq_true] at hb ⊢
          exact ⟨⟨by decide, hb.1.2⟩, hb.2⟩
        · exact h.ok s hs'
      have h2 : lengthB V.gap = true := by rw [h.gap]; decide
      have h3 : distB V.radius = true := by
        unfold distB; rw [decide_eq_true h.rad.1, decide_eq_true (by have := h.rad.2; omega)]; rfl
      have h4 : posOf [] ord (twoV V j { V.seats[k] with row := 900 }).seats.length = [] := by
        unfold posOf markB; simp
      show (seatsB (pick _ ord) && lengthB V.gap && distB V.radius && killsB (posOf [] ord _) _ && polesB []) = true
      rw [h1, h2, h3, h4]; rfl
    rw [hm]
    exact ⟨_, rfl, hm, hpl⟩
end Go.Proofs.Ytoaapngfbidllaa
