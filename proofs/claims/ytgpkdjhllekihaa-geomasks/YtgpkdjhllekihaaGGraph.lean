/- geom.Clash, geom.Graph by contracts. -/
import Derived.Test.YtgpkdjhllekihaaGGraphR
namespace Go.Proofs.Ytgpkdjhllekihaa.Geo
set_option linter.unusedVariables false
set_option maxRecDepth 100000
open Go.RowKit Go.Shelf
open Go.Proofs.Ytgpkdjhllekihaa.Ven (Seat Pole Ven VenAt venV seatV intC Box mayB mixed below_alloc RowF row_next row_same row_slice may_any Sl row_sl intC_len)

set_option maxHeartbeats 2000000 in
theorem gclash_any (a1 a2 a3 : Option Addr) (n1 c1 n2 c2 n3 c3 : Nat) (V : Ven) (i j : Int) (w : World) (h : VenAt w a1 n1 c1 a2 n2 c2 a3 n3 c3 V) :
    Calls Try.prog 11 #[venV a1 n1 c1 V.gap V.radius a2 n2 c2 a3 n3 c3, .int .i64 i, .int .i64 j] w fun e w' => e = .returned (.bool (clashB V i j)) ∧ Below w.heap.size w w' := by
  have hb0 := below_alloc w (.cells #[.slice a1 n1 c1, .int .i64 V.gap, .int .i64 V.radius, .slice a2 n2 c2, .slice a3 n3 c3] 26)
  have hx := Box.fresh w 26 #[.slice a1 n1 c1, .int .i64 V.gap, .int .i64 V.radius, .slice a2 n2 c2, .slice a3 n3 c3]
  have hn := h.s.len
  subst hn
  have hi := isSeat_any a1 a2 a3 V.seats.length c1 n2 c2 n3 c3 V.gap V.radius i
  have hj := isSeat_any a1 a2 a3 V.seats.length c1 n2 c2 n3 c3 V.gap V.radius j
  have hmay := fun W (hb : Below w.heap.size w W) => may_any a1 a2 a3 V.seats.length c1 n2 c2 n3 c3 V W (h.next hb)
  have hcl : ∀ W, Below w.heap.size w W → decide (0 ≤ i ∧ i < (V.seats.length : Int)) = true → decide (0 ≤ j ∧ j < (V.seats.length : Int)) = true → mayB V = true →
      Calls Try.prog 26 #[venV a1 V.seats.length c1 V.gap V.radius a2 n2 c2 a3 n3 c3, .int .i64 i, .int .i64 j] W fun e w' => e = .returned (.bool (clashL V.seats V.radius i.toNat j.toNat)) ∧ Below W.heap.size W w' := fun W hb g1 g2 g3 => by
    have g1 := of_decide_eq_true g1
    have g2 := of_decide_eq_true g2
    have hr := may_rad g3
    have := clash_any a1 a2 a3 V.seats.length c1 n2 c2 n3 c3 V i.toNat j.toNat (by omega) (by omega) (may_stand g3) hr.1 hr.2 W (h.next hb)
    rw [Int.toNat_of_nonneg g1.1, Int.toNat_of_nonneg g2.1] at this
    exact this
  have HC : Hid (clashB V i j = (decide (0 ≤ i ∧ i < (V.seats.length : Int)) && (decide (0 ≤ j ∧ j < (V.seats.length : Int)) && (mayB V && clashL V.seats V.radius i.toNat j.toNat)))) := rfl
  have HCL := hid' hcl
  clear hcl
  generalize clashB V i j = ans at HC ⊢
  generalize decide (0 ≤ i ∧ i < (V.seats.length : Int)) = p at hi HC HCL
  generalize decide (0 ≤ j ∧ j < (V.seats.length : Int)) = q at hj HC HCL
  generalize clashL V.seats V.radius i.toNat j.toNat = z at HC HCL
  generalize mayB V = m at hmay HC HCL
  have v0 := hx.cell 0 _ rfl
  have v1 := hx.cell 1 _ rfl
  have v2 := hx.cell 2 _ rfl
  have v3 := hx.cell 3 _ rfl
  have v4 := hx.cell 4 _ rfl
  clear h
  cases p with
  | false =>
    obtain rfl : ans = false := by have := HC.out; simpa using this
    go_enter Try.func11, Try.ntmps11
    go_wp2_with fail
    refine (hi _).mono ?_
    rintro e w1 ⟨rfl, hb1⟩
    have HB := hid' (hb0.trans (hb1.mono hb0.size))
    clear hx v0 v1 v2 v3 v4 hb0 hb1
    go_wp2
    go_ret
    exact ⟨rfl, HB.out⟩
  | true =>
    cases q with
    | false =>
      obtain rfl : ans = false := by have := HC.out; simpa using this
      go_enter Try.func11, Try.ntmps11
      go_wp2_with fail
      refine (hi _).mono ?_
      rintro e w1 ⟨rfl, hb1⟩
      have hx1 := hx.next hb1
      have hB1 := hb0.trans (hb1.mono hb0.size)
      clear hx v0 v1 v2 v3 v4 hb0 hb1
      have v0 := hx1.cell 0 _ rfl
      have v1 := hx1.cell 1 _ rfl
      have v2 := hx1.cell 2 _ rfl
      have v3 := hx1.cell 3 _ rfl
      have v4 := hx1.cell 4 _ rfl
      go_wp2_with fail
      refine (hj _).mono ?_
      rintro e w2 ⟨rfl, hb2⟩
      have HB := hid' (hB1.trans (hb2.mono hB1.size))
      clear hx1 v0 v1 v2 v3 v4 hB1 hb2
      go_wp2
      go_ret
      exact ⟨rfl, HB.out⟩
    | true =>
      go_enter Try.func11, Try.ntmps11
      go_wp2_with fail
      refine (hi _).mono ?_
      rintro e w1 ⟨rfl, hb1⟩
      have hx1 := hx.next hb1
      have hB1 := hb0.trans (hb1.mono hb0.size)
      clear hx v0 v1 v2 v3 v4 hb0 hb1
      have v0 := hx1.cell 0 _ rfl
      have v1 := hx1.cell 1 _ rfl
      have v2 := hx1.cell 2 _ rfl
      have v3 := hx1.cell 3 _ rfl
      have v4 := hx1.cell 4 _ rfl
      go_wp2_with fail
      refine (hj _).mono ?_
      rintro e w2 ⟨rfl, hb2⟩
      have hx2 := hx1.next hb2
      have hB2 := hB1.trans (hb2.mono hB1.size)
      clear hx1 v0 v1 v2 v3 v4 hB1 hb2
      have v0 := hx2.cell 0 _ rfl
      have v1 := hx2.cell 1 _ rfl
      have v2 := hx2.cell 2 _ rfl
      have v3 := hx2.cell 3 _ rfl
      have v4 := hx2.cell 4 _ rfl
      go_wp2_with fail
      refine (hmay _ hB2).mono ?_
      rintro e w3 ⟨rfl, hb3⟩
      have hx3 := hx2.next hb3
      have hB3 := hB2.trans (hb3.mono hB2.size)
      clear hx2 v0 v1 v2 v3 v4 hB2 hb3 hmay
      have v0 := hx3.cell 0 _ rfl
      have v1 := hx3.cell 1 _ rfl
      have v2 := hx3.cell 2 _ rfl
      have v3 := hx3.cell 3 _ rfl
      have v4 := hx3.cell 4 _ rfl
      cases m with
      | false =>
        obtain rfl : ans = false := by have := HC.out; simpa using this
        have HB := hid' hB3
        clear hx3 v0 v1 v2 v3 v4 hB3
        go_wp2
        go_ret
        exact ⟨rfl, HB.out⟩
      | true =>
        obtain rfl : ans = z := by have := HC.out; simpa using this
        go_wp2_with fail
        refine (HCL.out _ hB3 (by trivial) (by trivial) (by trivial)).mono ?_
        rintro e w4 ⟨rfl, hb4⟩
        have HB := hid' (hB3.trans (hb4.mono hB3.size))
        clear hx3 v0 v1 v2 v3 v4 hB3 hb4
        go_wp2
        go_ret
        exact ⟨rfl, HB.out⟩
/-- A row of rows of numbers, that a call made. -/
def RowsAt (W : World) (v : Value) (L : List (List Int)) : Prop :=
  (v = .slice none 0 0 ∧ L = []) ∨ ∃ G f, 0 < L.length ∧ v = .slice (some ⟨G, 0, none⟩) L.length L.length ∧ RowF W G L.length f ∧ ∀ j (h : j < L.length), Ints (G + 1) W (f j) L[j]
theorem RowsAt.next {W W' : World} {v : Value} {L : List (List Int)} (h : RowsAt W v L) (hb : Below W.heap.size W W') : RowsAt W' v L := by
  rcases h with h | ⟨G, f, h0, h1, h2, h3⟩
  · exact .inl h
  · exact .inr ⟨G, f, h0, h1, h2.next hb, fun j hj => (h3 j hj).next hb⟩
theorem RowsAt.nil {W : World} {v : Value} (h : RowsAt W v []) : v = .slice none 0 0 := by
  rcases h with ⟨rfl, _⟩ | ⟨G, f, h0, _⟩
  · rfl
  · cases h0
theorem RowsAt.len {W : World} {v : Value} {L : List (List Int)} (h : RowsAt W v L) : ∃ a, v = .slice a L.length L.length := by
  rcases h with ⟨rfl, rfl⟩ | ⟨G, f, _, h1, _⟩
  · exact ⟨none, rfl⟩
  · exact ⟨_, h1⟩
/-- A store below a row leaves it. -/
theorem Ints.set {base : Nat} {W : World} {v : Value} {l : List Int} (h : Ints base W v l) (g i : Nat) (hg : g < base) (u : Value) : Ints base (W.setCell ⟨g, i, none⟩ u) v l :=
  row_same h fun g' _ hv => Below.heap_setCell W _ u g' (fun e => by have := (h.lt g' hv).1; have e' : g' = g := e; omega)
theorem make35 (n : Nat) (hn : n ≤ 4096) (w : World) : (Instr.makeSlice 35 (.int .i64 n) (.int .i64 n)).run Try.prog w = .ok (.slice (some ⟨w.heap.size, 0, none⟩) n n) (w.alloc (.cells (madeCells #[.slice none 0 0] n) 23)) := by
  have h : (Try.prog.info? 23).map (fun i => (i.zero, i.size, i.bytes)) = some (some (.slice none 0 0), 1, 24) := by kernel_rfl
  cases hi : Try.prog.info? 23 with
  | none => rw [hi] at h; cases h
  | some i =>
    rw [hi] at h
    have h' := Option.some.inj h
    have hz := congrArg (·.1) h'
    have hs := congrArg (·.2.1) h'
    have hb := congrArg (·.2.2) h'
    simp only at hz hs hb
    have := run_make (P := Try.prog) w 35 23 i (.slice none 0 0) Try.underlying35 hi hz .i64 .i64 n n (by omega) (by omega) (by rw [hb]; omega) (by omega)
    rw [this, hs]
    simp
    rfl
set_option maxHeartbeats 4000000 in
theorem graph_any (a1 a2 a3 : Option Addr) (n1 c1 n2 c2 n3 c3 : Nat) (V : Ven) (w : World) (h : VenAt w a1 n1 c1 a2 n2 c2 a3 n3 c3 V) :
    Calls Try.prog 16 #[venV a1 n1 c1 V.gap V.radius a2 n2 c2 a3 n3 c3] w fun e w' => ∃ v, e = .returned v ∧ RowsAt w' v (graphL V) ∧ Below w.heap.size w w' := by
  have hb0 := below_alloc w (.cells #[.slice a1 n1 c1, .int .i64 V.gap, .int .i64 V.radius, .slice a2 n2 c2, .slice a3 n3 c3] 26)
  have hx := Box.fresh w 26 #[.slice a1 n1 c1, .int .i64 V.gap, .int .i64 V.radius, .slice a2 n2 c2, .slice a3 n3 c3]
  have hn := h.s.len
  subst hn
  have hmay := may_any a1 a2 a3 V.seats.length c1 n2 c2 n3 c3 V _ (h.next hb0)
  have HV := hid' h
  have v0 := hx.cell 0 _ rfl
  have v1 := hx.cell 1 _ rfl
  have v2 := hx.cell 2 _ rfl
  have v3 := hx.cell 3 _ rfl
  have v4 := hx.cell 4 _ rfl
  clear h
  cases hm : mayB V with
  | false =>
    rw [hm] at hmay
    have HG : Hid (graphL V = []) := by show graphL V = []; unfold graphL; rw [hm]; rfl
    generalize graphL V = GL at HG ⊢
    clear hm
    go_enter Try.func16, Try.ntmps16
    go_wp2_with fail
    refine hmay.mono ?_
    rintro e w1 ⟨rfl, hb1⟩
    have HB := hid' (hb0.trans (hb1.mono hb0.size))
    clear hx v0 v1 v2 v3 v4 hb0 hb1 hmay
    go_wp2
    go_ret
    exact ⟨_, rfl, .inl ⟨rfl, HG.out⟩, HB.out⟩
  | true =>
    rw [hm] at hmay
    have HG : Hid (graphL V = (List.range V.seats.length).map (fun i => thoseN V.seats.length (clashL V.seats V.radius i))) := by show graphL V = _; unfold graphL; rw [hm]; rfl
    generalize graphL V = GL at HG ⊢
    have HST := hid' (may_stand hm)
    obtain ⟨hf1, hf2⟩ := may_few hm
    have HR := hid' (may_rad hm)
    clear hm
    have hmk := make35 V.seats.length hf2
    go_enter Try.func16, Try.ntmps16
    go_wp2_with fail
    refine hmay.mono ?_
    rintro e w1 ⟨rfl, hb1⟩
    have hx1 := hx.next hb1
    have hB1 := hb0.trans (hb1.mono hb0.size)
    clear hx v0 v1 v2 v3 v4 hb0 hb1 hmay
    have u0 := hx1.cell 0 _ rfl
    have hx2 := hx1.next (below_alloc w1 (.cells (madeCells #[.slice none 0 0] V.seats.length) 23))
    have hB2 := hB1.alloc hB1.size (.cells (madeCells #[.slice none 0 0] V.seats.length) 23)
    have hrf := RowF.made w1 (.slice none 0 0) V.seats.length 23
    have hGw : w.heap.size < w1.heap.size := hx1.lt
    go_wp2_with fail
    generalize w1.alloc (.cells (madeCells #[.slice none 0 0] V.seats.length) 23) = W0 at *
    obtain ⟨G, hG⟩ : ∃ G, G = w1.heap.size := ⟨_, rfl⟩
    rw [← hG] at hrf hGw ⊢
    have HX0 := hid' hx2
    have HB0 := hid' hB2
    have HRF0 := hid' hrf
    clear hx1 hx2 hB1 hB2 hrf u0 hmk hG
    go_loopw [4, 14] (fun _ i wr => ∃ (k : Nat) (f : Nat → Value), k ≤ V.seats.length ∧ i = .int .i64 k ∧ Hid (Below w.heap.size w wr) ∧ Hid (Box wr w.heap.size 26 #[.slice a1 V.seats.length c1, .int .i64 V.gap, .int .i64 V.radius, .slice a2 n2 c2, .slice a3 n3 c3]) ∧ Hid (RowF wr G V.seats.length f) ∧ Hid (∀ j, j < k → Ints (G + 1) wr (f j) (thoseN V.seats.length (clashL V.seats V.radius j)))) (fun _ i _ => V.seats.length - (intOf i).toNat)
    case atStart => exact ⟨0, _, Nat.zero_le _, rfl, HB0, HX0, HRF0, fun j hj => absurd hj (by omega)⟩
    case round =>
      clear HX0 HB0 HRF0
      obtain ⟨k, f, hk, rfl, HB, HX, HRF, HIS⟩ := hrel
      by_cases hlt : k < V.seats.length
      · have hltz : (k : Int) < (V.seats.length : Int) := by omega
        go_wp2_with fail
        have hb2 := below_alloc wr (.cells #[.int .i64 k] 3)
        have hs2 := Box.fresh wr 3 #[.int .i64 k]
        have hB2 := HB.out.trans (hb2.mono HB.out.size)
        have hx2 := HX.out.next hb2
        have hrf2 := HRF.out.next hb2
        have HIS2 : Hid (∀ j, j < k → Ints (G + 1) (wr.alloc (.cells #[.int .i64 k] 3)) (f j) (thoseN V.seats.length (clashL V.seats V.radius j))) := fun j hj => (HIS.out j hj).next hb2
        have hGs : G + 1 ≤ (wr.alloc (.cells #[.int .i64 k] 3)).heap.size := by have := HRF.out.1; simp; omega
        generalize wr.alloc (.cells #[.int .i64 k] 3) = W at *
        generalize wr.heap.size = ab at *
        clear HB HX HRF HIS hb2
        refine graph_region _ W rfl G V.seats.length k f hlt w.heap.size ab a1 a2 a3 V.seats.length c1 n2 c2 n3 c3 V.gap V.radius (thoseN V.seats.length (clashL V.seats V.radius k)) rfl rfl rfl hx2 hs2 hrf2 ?_ ?_
        · intro W1 hb1
          refine (those_graph a1 a2 a3 V.seats.length c1 n2 c2 n3 c3 V.gap V.radius hf2 w.heap.size ab (clashL V.seats V.radius k) W1 (fun W' hW j hj => ?_)).mono (fun e w' ⟨v, he, hr, hb⟩ => ⟨v, he, hr, hb⟩)
          have hb3 := hb1.trans (hW.mono hb1.size)
          exact graphCl_any a1 a2 a3 V.seats.length c1 n2 c2 n3 c3 V k j hlt hj HST.out HR.out.1 HR.out.2 w.heap.size ab W' ((HV.out.next hB2).next hb3) (hx2.next hb3) (hs2.next hb3)
        · intro w' v hb3 hrow
          have HB3 := hid' (Below.setCell (hB2.trans (hb3.mono hB2.size)) (show w.heap.size ≤ (⟨G, k, none⟩ : Addr).block from Nat.le_of_lt hGw) v)
          have HX3 := hid' ((hx2.next hb3).other G k (by omega) v)
          have HRF3 := hid' ((hrf2.next hb3).put (f' := fun j => if j = k then v else f j) k v hlt (fun j _ => rfl))
          have HIS3 : Hid (∀ j, j < k + 1 → Ints (G + 1) (w'.setCell ⟨G, k, none⟩ v) (if j = k then v else f j) (thoseN V.seats.length (clashL V.seats V.radius j))) := fun j hj => by
            by_cases e : j = k
            · subst e; rw [if_pos rfl]
              exact Ints.set (row_base hrow hGs) G j (by omega) v
            · rw [if_neg e]
              exact ((HIS2.out j (by omega)).next hb3).set G k (by omega) v
          clear hB2 hx2 hrf2 HIS2 hGs hs2 hb3 hrow
          simp only [Ven.putAll]
          go_wp2_with fail
          exact ⟨⟨k + 1, _, by omega, by go_num, HB3, HX3, HRF3, HIS3⟩, by simp [intOf]; omega⟩
      · have hltz : ¬ (k : Int) < (V.seats.length : Int) := by omega
        have hkn : k = V.seats.length := by omega
        have HRES : Hid (RowsAt wr (.slice (some ⟨G, 0, none⟩) V.seats.length V.seats.length) GL) := by
          have hl : GL.length = V.seats.length := by rw [HG.out]; simp
          refine .inr ⟨G, f, by omega, by rw [hl], by rw [hl]; exact HRF.out, fun j hj => ?_⟩
          have hj2 : j < V.seats.length := by omega
          have e : GL[j] = thoseN V.seats.length (clashL V.seats V.radius j) := by simp [HG.out]
          rw [e]; exact HIS.out j (by omega)
        clear HRF HIS HX
        go_wp2
        go_ret
        exact ⟨_, rfl, HRES.out, HB.out⟩
end Go.Proofs.Ytgpkdjhllekihaa.Geo
