/- GeomMoved answers true: its walk. -/
import Derived.Test.YtgpkdjhllekihaaGMovedR
import Derived.Test.YtgpkdjhllekihaaGMovedG
import Derived.Test.YtgpkdjhllekihaaGMovedP
import Derived.Test.YtgpkdjhllekihaaGSameI
import Derived.Test.YtgpkdjhllekihaaVMakeA
namespace Go.Proofs.Ytgpkdjhllekihaa.Geo
set_option linter.unusedVariables false
set_option maxRecDepth 100000
open Go.RowKit Go.Shelf
open Go.Proofs.Ytgpkdjhllekihaa.Ven (Seat Pole Ven VenAt venV seatV seatC Box Cells mayB mixed below_alloc row_slice row_sl seatC_len BelowOf wp_region_quiet_below Calls.below_of IntsAt make_any mod_u64 info34)

theorem box_low {B : Nat} {W W' : World} {q : Nat} {t : TypeId} {cs : Array Value} (h : Box W q t cs) (hb : Below B W W') (hq : q < B) : Box W' q t cs := h.same (hb.block q hq)
set_option maxHeartbeats 16000000 in
theorem moved_law (a : Option Addr) (len cap : Nat) (l : List Int) {w0 : World} (h : IntsAt w0 a len cap l) (dx dy more : Int) (w : World) (hw : w0 = w := by rfl) :
    Calls Try.prog 5 #[.slice a len cap, .int .i64 dx, .int .i64 dy, .int .i64 more] w fun e w' => e = .returned (.bool true) ∧ Below w.heap.size w w' := by
  subst hw
  have hmake := make_any a len cap l 20 (by omega) (by omega) w0 h
  obtain ⟨kx, hkx, ex⟩ := mod_u64 dx 1000 (by omega)
  obtain ⟨ky, hky, ey⟩ := mod_u64 dy 1000 (by omega)
  obtain ⟨km, hkm, em⟩ := mod_u64 more 50 (by omega)
  have f1 : IntKind.i64.wrap (kx : Int) = kx := by rw [IntKind.wrap_i64]; omega
  have f2 : IntKind.i64.wrap (ky : Int) = ky := by rw [IntKind.wrap_i64]; omega
  have f3 : IntKind.i64.wrap (km : Int) = km := by rw [IntKind.wrap_i64]; omega
  obtain ⟨i0, hi, hz0, hz1, hz2⟩ := info34
  clear h
  go_enter Try.func5, Try.ntmps5
  go_wp2_with fail
  refine hmake.mono ?_
  rintro e w1 ⟨V, az, cs, ak, ck, ap, cp, row, xx, rfl, hven, hok, hle, hb1⟩
  have hl1 := hok.len
  obtain ⟨sb, so, rfl, hC⟩ := Ven.cells_of_pos hven.s (i := 0) (by omega)
  have hcl : V.seats.length ≤ cs := by
    rcases hven.s with ⟨⟨_, _, h⟩, h'⟩ | ⟨_, _, _, h, h2, _⟩
    · rw [h'] at hl1; simp at hl1
    · cases h; exact h2
  -- the two boxes, the empty row
  have x1 := below_alloc w1 (.cells #[.slice (some ⟨sb, so, none⟩) V.seats.length cs, .int .i64 V.gap, .int .i64 V.radius, .slice ak V.kills.length ck, .slice ap V.poles.length cp] 26)
  have x2 := below_alloc (w1.alloc (.cells #[.slice (some ⟨sb, so, none⟩) V.seats.length cs, .int .i64 V.gap, .int .i64 V.radius, .slice ak V.kills.length ck, .slice ap V.poles.length cp] 26)) (.cells #[.slice (some ⟨sb, so, none⟩) V.seats.length cs, .int .i64 V.gap, .int .i64 V.radius, .slice ak V.kills.length ck, .slice ap V.poles.length cp] 26)
  have x3 := below_alloc ((w1.alloc (.cells #[.slice (some ⟨sb, so, none⟩) V.seats.length cs, .int .i64 V.gap, .int .i64 V.radius, .slice ak V.kills.length ck, .slice ap V.poles.length cp] 26)).alloc (.cells #[.slice (some ⟨sb, so, none⟩) V.seats.length cs, .int .i64 V.gap, .int .i64 V.radius, .slice ak V.kills.length ck, .slice ap V.poles.length cp] 26)) (.cells #[] 28)
  have y1 := ((Box.fresh w1 26 #[.slice (some ⟨sb, so, none⟩) V.seats.length cs, .int .i64 V.gap, .int .i64 V.radius, .slice ak V.kills.length ck, .slice ap V.poles.length cp]).next x2).next x3
  have y2 := (Box.fresh (w1.alloc (.cells #[.slice (some ⟨sb, so, none⟩) V.seats.length cs, .int .i64 V.gap, .int .i64 V.radius, .slice ak V.kills.length ck, .slice ap V.poles.length cp] 26)) 26 #[.slice (some ⟨sb, so, none⟩) V.seats.length cs, .int .i64 V.gap, .int .i64 V.radius, .slice ak V.kills.length ck, .slice ap V.poles.length cp]).next x3
  have hrow : (((w1.alloc (.cells #[.slice (some ⟨sb, so, none⟩) V.seats.length cs, .int .i64 V.gap, .int .i64 V.radius, .slice ak V.kills.length ck, .slice ap V.poles.length cp] 26)).alloc (.cells #[.slice (some ⟨sb, so, none⟩) V.seats.length cs, .int .i64 V.gap, .int .i64 V.radius, .slice ak V.kills.length ck, .slice ap V.poles.length cp] 26)).alloc (.cells #[] 28)).ownsRow (w1.heap.size + 1 + 1) 28 4 (.slice (some ⟨w1.heap.size + 1 + 1, 0, none⟩) 0 0) 0 [] := by
    have := World.ownsRow_made (base := w1.heap.size + 1 + 1) (e := 28) (size := 4) ((w1.alloc (.cells #[.slice (some ⟨sb, so, none⟩) V.seats.length cs, .int .i64 V.gap, .int .i64 V.radius, .slice ak V.kills.length ck, .slice ap V.poles.length cp] 26)).alloc (.cells #[.slice (some ⟨sb, so, none⟩) V.seats.length cs, .int .i64 V.gap, .int .i64 V.radius, .slice ak V.kills.length ck, .slice ap V.poles.length cp] 26)) #[] 0 (by simp) (Nat.zero_le _) (by simp)
    simpa using this
  have hB := (hb1.trans (x1.mono hb1.size)).trans (x2.mono (hb1.trans (x1.mono hb1.size)).size)
  have hB3 := hB.trans (x3.mono hB.size)
  have hsz : (((w1.alloc (.cells #[.slice (some ⟨sb, so, none⟩) V.seats.length cs, .int .i64 V.gap, .int .i64 V.radius, .slice ak V.kills.length ck, .slice ap V.poles.length cp] 26)).alloc (.cells #[.slice (some ⟨sb, so, none⟩) V.seats.length cs, .int .i64 V.gap, .int .i64 V.radius, .slice ak V.kills.length ck, .slice ap V.poles.length cp] 26)).alloc (.cells #[] 28)).heap.size = w1.heap.size + 1 + 1 + 1 := by simp
  have hcells : ∀ j u, (V.seats.flatMap seatC)[j]? = some u → (((w1.alloc (.cells #[.slice (some ⟨sb, so, none⟩) V.seats.length cs, .int .i64 V.gap, .int .i64 V.radius, .slice ak V.kills.length ck, .slice ap V.poles.length cp] 26)).alloc (.cells #[.slice (some ⟨sb, so, none⟩) V.seats.length cs, .int .i64 V.gap, .int .i64 V.radius, .slice ak V.kills.length ck, .slice ap V.poles.length cp] 26)).alloc (.cells #[] 28)).cell? ((⟨sb, so, none⟩ : Addr).add j) = some u := fun j u hj => by
    rw [Addr.add_lit]
    exact (((hC.next x1).next x2).next x3).flat seatC_len (by omega) j u hj
  rw [World.size_alloc] at y2
  have v0 := (Box.fresh w1 26 #[.slice (some ⟨sb, so, none⟩) V.seats.length cs, .int .i64 V.gap, .int .i64 V.radius, .slice ak V.kills.length ck, .slice ap V.poles.length cp]).cell 0 _ rfl
  have v1 := (Box.fresh w1 26 #[.slice (some ⟨sb, so, none⟩) V.seats.length cs, .int .i64 V.gap, .int .i64 V.radius, .slice ak V.kills.length ck, .slice ap V.poles.length cp]).cell 1 _ rfl
  have v2 := (Box.fresh w1 26 #[.slice (some ⟨sb, so, none⟩) V.seats.length cs, .int .i64 V.gap, .int .i64 V.radius, .slice ak V.kills.length ck, .slice ap V.poles.length cp]).cell 2 _ rfl
  have v3 := (Box.fresh w1 26 #[.slice (some ⟨sb, so, none⟩) V.seats.length cs, .int .i64 V.gap, .int .i64 V.radius, .slice ak V.kills.length ck, .slice ap V.poles.length cp]).cell 3 _ rfl
  have v4 := (Box.fresh w1 26 #[.slice (some ⟨sb, so, none⟩) V.seats.length cs, .int .i64 V.gap, .int .i64 V.radius, .slice ak V.kills.length ck, .slice ap V.poles.length cp]).cell 4 _ rfl
  have z0 := y1.cell 0 _ rfl
  have HVEN := hid' hven
  have HOK := hid' hok
  have HB1 := hid' hb1
  have X4 : Hid (Below w1.heap.size w1 (((w1.alloc (.cells #[.slice (some ⟨sb, so, none⟩) V.seats.length cs, .int .i64 V.gap, .int .i64 V.radius, .slice ak V.kills.length ck, .slice ap V.poles.length cp] 26)).alloc (.cells #[.slice (some ⟨sb, so, none⟩) V.seats.length cs, .int .i64 V.gap, .int .i64 V.radius, .slice ak V.kills.length ck, .slice ap V.poles.length cp] 26)).alloc (.cells #[] 28))) := (x1.trans (x2.mono x1.size)).trans (x3.mono (x1.trans (x2.mono x1.size)).size)
  clear x1 x2 x3 hC hB hb1 hven hok hmake
  go_wp2_with (at_builtin; refine wpList_append_own _ rfl _ _ 22 rfl (w1.heap.size + 1 + 1) 28 i0 (seatV 0 0 0 0) 4 32 Try.underlying22 hi hz0 hz1 hz2 rfl (by omega) _ _ _ rfl hrow ⟨sb, so, none⟩ V.seats.length cs (V.seats.flatMap seatC) rfl ?qc1 ?qc2 ?qc3 ?qc4 ?qc5 ?qc6 ?_)
  case qc1 => exact Ven.flat_len seatC 4 seatC_len V.seats
  case qc2 => exact hcells
  case qc3 =>
    intro u hu
    obtain ⟨t, _, hu⟩ := List.mem_flatMap.1 hu
    simp [seatC] at hu; rcases hu with rfl | rfl | rfl | rfl <;> rfl
  case qc4 => unfold maxLen; omega
  case qc5 => omega
  case qc6 => rw [hsz]; omega
  intro v5 w5 hown hgr _
  have hown : w5.ownsRow (w1.heap.size + 1 + 1) 28 4 v5 V.seats.length (V.seats.flatMap seatC) := by simpa using hown
  clear hcells v0 v1 v2 v3 v4 z0
  obtain ⟨G, cap, cur, hv5, hG, hbx⟩ : ∃ G cap cur, v5 = .slice (some ⟨G, 0, none⟩) V.seats.length cap ∧ w1.heap.size + 1 + 1 ≤ G ∧ Box w5 G 28 cur := by
    rcases hown.2 with ⟨_, hn⟩ | ⟨g, cap, cur, hv, hg, hc, _⟩
    · omega
    · exact ⟨g, cap, cur, hv, hg, hc⟩
  subst hv5
  have HCG : Hid (Cells 4 seatC w5 G 0 V.seats ∧ V.seats.length ≤ cap ∧ cap ≤ maxLen) := by
    rcases row_sl seatC_len hown with ⟨_, hn⟩ | ⟨b, off, cap', hv, hc1, hc2, hC⟩
    · rw [hn] at hl1; simp at hl1
    · injection hv with e1 _ e3
      injection e1 with e1
      injection e1 with e1 e2
      subst e1 e2 e3
      exact ⟨hC, hc1, hc2⟩
  have HCAP := hid' HCG.out.2
  have g1 := y1.grown hgr (Ven.row_low hrow (by omega))
  have g2 := y2.grown hgr (Ven.row_low hrow (by omega))
  have HLOW : Hid (Below (w1.heap.size + 1 + 1) (((w1.alloc (.cells #[.slice (some ⟨sb, so, none⟩) V.seats.length cs, .int .i64 V.gap, .int .i64 V.radius, .slice ak V.kills.length ck, .slice ap V.poles.length cp] 26)).alloc (.cells #[.slice (some ⟨sb, so, none⟩) V.seats.length cs, .int .i64 V.gap, .int .i64 V.radius, .slice ak V.kills.length ck, .slice ap V.poles.length cp] 26)).alloc (.cells #[] 28)) w5) := ⟨hgr.os, hgr.tape, hgr.output, hgr.size, fun k hk => hgr.block k (by rw [hsz]; omega) (Ven.row_low hrow hk)⟩
  have r0 := g2.cell 0 _ rfl
  have fr := g2.frozen 0
  have rl := g2.lt
  have HG1 : Hid (Box (w5.setCell ⟨w1.heap.size + 1, 0, none⟩ (.slice (some ⟨G, 0, none⟩) V.seats.length cap)) w1.heap.size 26 #[.slice (some ⟨sb, so, none⟩) V.seats.length cs, .int .i64 V.gap, .int .i64 V.radius, .slice ak V.kills.length ck, .slice ap V.poles.length cp]) := g1.other _ _ (by omega) _
  have HG2 : Hid (Box (w5.setCell ⟨w1.heap.size + 1, 0, none⟩ (.slice (some ⟨G, 0, none⟩) V.seats.length cap)) (w1.heap.size + 1) 26 #[.slice (some ⟨G, 0, none⟩) V.seats.length cap, .int .i64 V.gap, .int .i64 V.radius, .slice ak V.kills.length ck, .slice ap V.poles.length cp]) := g2.set 0 _
  have HFZ : Hid (∀ i, (w5.setCell ⟨w1.heap.size + 1, 0, none⟩ (.slice (some ⟨G, 0, none⟩) V.seats.length cap)).frozen? ⟨G, i, none⟩ = false) := fun i => (hbx.other (w1.heap.size + 1) 0 (by omega) _).frozen i
  have HCW : Hid (Cells 4 seatC (w5.setCell ⟨w1.heap.size + 1, 0, none⟩ (.slice (some ⟨G, 0, none⟩) V.seats.length cap)) G 0 V.seats) := ⟨by simpa using HCG.out.1.1, fun i hi j u hu => by
    rw [World.cell?_setCell_other _ _ _ _ (by intro h'; have := congrArg Addr.block h'; simp at this; omega)]
    exact HCG.out.1.2 i hi j u hu⟩
  have HGW : Hid (G < (w5.setCell ⟨w1.heap.size + 1, 0, none⟩ (.slice (some ⟨G, 0, none⟩) V.seats.length cap)).heap.size) := by show G < _; rw [World.size_setCell]; exact hbx.lt
  have HW1 : Hid (Below w1.heap.size w1 (w5.setCell ⟨w1.heap.size + 1, 0, none⟩ (.slice (some ⟨G, 0, none⟩) V.seats.length cap))) := Below.setCell (X4.out.trans (HLOW.out.mono (by omega))) (show w1.heap.size ≤ w1.heap.size + 1 by omega) _
  clear g1 g2 hbx hown hgr hrow hsz HCG HLOW X4 y1 y2 hB3
  go_wp2_with fail
  generalize w5.setCell ⟨w1.heap.size + 1, 0, none⟩ (.slice (some ⟨G, 0, none⟩) V.seats.length cap) = W at *
  have HVW := hid' (HVEN.out.next HW1.out)
  have HB := hid' (HB1.out.trans (HW1.out.mono HB1.out.size))
  have hq1 : w1.heap.size < G := by omega
  have hq2 : w1.heap.size + 1 < G := by omega
  have HSZ : Hid (w0.heap.size ≤ w1.heap.size) := HB1.out.size
  clear HB1 hG r0 fr rl ex ey hi hz0 hz1 hz2
  go_loopw [13] (fun i wr => ∃ k : Nat, k ≤ V.seats.length ∧ i = .int .i64 k ∧ Hid (Below G W wr) ∧ Hid (∀ i, wr.frozen? ⟨G, i, none⟩ = false) ∧ Hid (Cells 4 seatC wr G 0 ((V.seats.take k).map (mvS kx ky) ++ V.seats.drop k))) (fun i _ => V.seats.length - (intOf i).toNat)
  case atStart => exact ⟨0, Nat.zero_le _, rfl, Below.refl _ W, HFZ, HCW⟩
  case round =>
    obtain ⟨k, hk, rfl, HBk, HFk, HCk⟩ := hrel
    have z0 := (box_low HG2.out HBk.out hq2).cell 0 _ rfl
    by_cases hlt : k < V.seats.length
    · have hltz : (k : Int) < (V.seats.length : Int) := by omega
      have hsm := HOK.out.sm V.seats[k] (List.getElem_mem hlt)
      have hset := mv_at (kx : Int) (ky : Int) V.seats k hlt
      have hstp := mv_step (kx : Int) (ky : Int) V.seats k hlt
      have hlen := mv_len (kx : Int) (ky : Int) V.seats k hk
      obtain ⟨r, x, y, kk, hs⟩ : ∃ r x y kk, V.seats[k] = ⟨r, x, y, kk⟩ := ⟨_, _, _, _, rfl⟩
      rw [hs] at hsm hset hstp
      simp only at hsm
      have wx : IntKind.i64.wrap (x + (kx : Int)) = x + kx := by rw [IntKind.wrap_i64]; omega
      have wy : IntKind.i64.wrap (y - (ky : Int)) = y - ky := by rw [IntKind.wrap_i64]; omega
      have HSTP := hid' hstp
      have HSET := hid' hset
      have HLEN := hid' hlen
      clear hs hset hstp hlen hsm
      go_wp2_with fail
      refine moved_region _ wr rfl (w1.heap.size + 1) G V.seats.length cap k _ _ _ _ r x y kk kx ky ((V.seats.take k).map (mvS kx ky) ++ V.seats.drop k) (by rw [HLEN.out]; exact hlt) HLEN.out (Nat.lt_of_lt_of_le HGW.out HBk.out.size) hq2 rfl rfl rfl rfl wx wy (box_low HG2.out HBk.out hq2) HFk.out (by rw [HSET.out]; exact HCk.out) ?_
      intro w' hbk hfk hck
      have HB2 := hid' (HBk.out.trans hbk)
      have HF2 := hid' hfk
      have HC2 : Hid (Cells 4 seatC w' G 0 ((V.seats.take (k + 1)).map (mvS kx ky) ++ V.seats.drop (k + 1))) := by
        show Cells 4 seatC w' G 0 _
        rw [← HSTP.out]; exact hck
      clear hbk hfk hck z0 wx wy
      simp only [Ven.putAll, List.setIfInBounds_toArray, List.set_cons_succ, List.set_cons_zero]
      go_wp2_with fail
      exact ⟨⟨k + 1, by omega, by go_num, HB2, HF2, HC2⟩, by simp [intOf]; omega⟩
    · have hltz : ¬ (k : Int) < (V.seats.length : Int) := by omega
      have hkn : k = V.seats.length := by omega
      have HCN : Hid (Cells 4 seatC wr G 0 (V.seats.map (mvS kx ky))) := by
        have := HCk.out
        rw [hkn, List.take_length, List.drop_length, List.append_nil] at this
        exact this
      have v9 := box_low HG1.out HBk.out hq1
      have v0 := v9.cell 0 _ rfl
      have v1 := v9.cell 1 _ rfl
      have v2 := v9.cell 2 _ rfl
      have v3 := v9.cell 3 _ rfl
      have v4 := v9.cell 4 _ rfl
      have vl := v9.lt
      have hrd := HOK.out.rad
      have f4 : IntKind.i64.wrap (V.radius + (km : Int)) = V.radius + km := by rw [IntKind.wrap_i64]; omega
      clear HCk hkn
      go_wp2_with fail
      have hm := HOK.out.may (by omega)
      have hm2 := MkOK.may_mv HOK.out (by omega) (a := (kx : Int)) (b := (ky : Int)) ⟨by omega, hkx⟩ ⟨by omega, hky⟩
      have hm3 := MkOK.may_more HOK.out (by omega) (m := (km : Int)) (by omega) hkm
      have xa := below_alloc wr (.cells #[.slice (some ⟨sb, so, none⟩) V.seats.length cs, .int .i64 V.gap, .int .i64 (V.radius + (km : Int)), .slice ak V.kills.length ck, .slice ap V.poles.length cp] 26)
      have hwr : G < wr.heap.size := Nat.lt_of_lt_of_le HGW.out HBk.out.size
      have b14 := Box.fresh wr 26 #[.slice (some ⟨sb, so, none⟩) V.seats.length cs, .int .i64 V.gap, .int .i64 (V.radius + (km : Int)), .slice ak V.kills.length ck, .slice ap V.poles.length cp]
      have b9 := (box_low HG1.out HBk.out hq1).next xa
      have b10 := (box_low HG2.out HBk.out hq2).next xa
      have HLW : Hid (Below w1.heap.size w1 (wr.alloc (.cells #[.slice (some ⟨sb, so, none⟩) V.seats.length cs, .int .i64 V.gap, .int .i64 (V.radius + (km : Int)), .slice ak V.kills.length ck, .slice ap V.poles.length cp] 26))) := (HW1.out.trans (HBk.out.mono (by omega))).trans (xa.mono (by omega))
      have hcW := HCN.out.next xa
      have HBW := hid' ((HB.out.trans (HBk.out.mono (by have := HSZ.out; omega))).trans (xa.mono (by have := HSZ.out; omega)))
      clear xa v0 v1 v2 v3 v4 vl v9 z0
      generalize wr.alloc (.cells #[.slice (some ⟨sb, so, none⟩) V.seats.length cs, .int .i64 V.gap, .int .i64 (V.radius + (km : Int)), .slice ak V.kills.length ck, .slice ap V.poles.length cp] 26) = W9 at *
      generalize wr.heap.size = p14 at *
      refine graphs_region _ W9 rfl w1.heap.size (w1.heap.size + 1) p14 _ _ _ _ _ _ _ _ _ _ _ _ _ _ _ (graphL V) (graphL (mvV kx ky V)) (graphL (moreV km V)) rfl rfl rfl b9 b10 b14 ?_ ?_ ?_ ?_
      · intro w' hw'
        exact graph_any _ _ _ _ _ _ _ _ _ V w' ((HVEN.out.next HLW.out).next hw')
      · intro w' hw'
        have hv' := (HVEN.out.next HLW.out).next hw'
        exact graph_any _ _ _ _ _ _ _ _ _ (mvV kx ky V) w' ⟨.inr ⟨G, 0, cap, by show _ = Value.slice _ (V.seats.map (mvS kx ky)).length cap; rw [List.length_map], by show (V.seats.map (mvS kx ky)).length ≤ cap; rw [List.length_map]; exact HCAP.out.1, HCAP.out.2, hcW.next hw'⟩, hv'.k, hv'.p⟩
      · intro w' hw'
        have hv' := (HVEN.out.next HLW.out).next hw'
        exact graph_any _ _ _ _ _ _ _ _ _ (moreV km V) w' ⟨hv'.s, hv'.k, hv'.p⟩
      intro w' u0 u1 u2 hb3 r0 r1 r2
      rw [graph_mv _ _ hm hm2] at r1
      have hA := graph_len hm
      have hC : (graphL (moreV km V)).length = V.seats.length := graph_len hm3
      have HCC := hid' (graph_more hrd.1 (by omega) hm hm3)
      have HIN := hid' (graph_in hrd.1 (by omega) hm hm3)
      have HVV := hid' ((HVEN.out.next HLW.out).next hb3)
      have HX9 := hid' (b9.next hb3)
      have HX14 := hid' (b14.next hb3)
      have HB3 := hid' (HBW.out.trans (hb3.mono HBW.out.size))
      generalize graphL V = A at *
      generalize graphL (moreV km V) = C at *
      obtain ⟨G0, g0, rfl, rf0, in0⟩ := r0.one (by omega)
      obtain ⟨G1, g1, rfl, rf1, in1⟩ := r1.one (by omega)
      obtain ⟨G2, g2, rfl, rf2, in2⟩ := r2.one (by omega)
      rw [hA] at rf0 rf1 ⊢
      rw [hC] at rf2 ⊢
      have HA := hid' hA
      have HC := hid' hC
      have HR0 := hid' rf0
      have HR1 := hid' rf1
      have HR2 := hid' rf2
      have HI0 := hid' in0
      have HI1 := hid' in1
      have HI2 := hid' in2
      clear r0 r1 r2 rf0 rf1 rf2 in0 in1 in2 hA hC hm hm2 hm3 hb3 b9 b10 b14 hcW HBW HLW HCN HFk HBk HFZ HCW HG1 HG2 HGW HCAP hwr f1 f2 f3 f4 em HW1 HVEN HB HVW hltz hlt hk hq1 hq2
      simp only [Ven.putAll, List.setIfInBounds_toArray, List.set_cons_succ, List.set_cons_zero]
      have n0 := HX9.out.cell 0 _ rfl
      have nl := HX9.out.lt
      have hnn : ((V.seats.length : Int) != (V.seats.length : Int)) = false := by simp
      go_wp2_with fail
      clear n0 nl hnn hrd
      go_loopw [18] (fun i wx => ∃ k : Nat, k ≤ V.seats.length ∧ i = .int .i64 k ∧ Hid (Below w'.heap.size w' wx)) (fun i _ => V.seats.length - (intOf i).toNat)
      case atStart => exact ⟨0, Nat.zero_le _, rfl, Below.refl _ _⟩
      case round =>
        obtain ⟨i, hi, rfl, HX⟩ := hrel
        by_cases hin : i < V.seats.length
        · have hiz : (i : Int) < (V.seats.length : Int) := by omega
          have hiA : i < A.length := by rw [HA.out]; exact hin
          have hiC : i < C.length := by rw [HC.out]; exact hin
          have hle' := HCC.out i hiA hiC
          have hal : A[i].length ≤ 9223372036854775807 := by
            have := (Sl.form (HI0.out i hiA).sl)
            obtain ⟨_, _, _, h, _⟩ := this
            unfold maxLen at h; omega
          obtain ⟨av, ac, hav⟩ := row_slice (HI0.out i hiA)
          obtain ⟨bv, bc, hbv⟩ := row_slice (HI1.out i hiA)
          obtain ⟨cv, cc, hcv⟩ := row_slice (HI2.out i hiC)
          have HSM : Hid (∀ W, Below w'.heap.size w' W → Calls Try.prog 13 #[.slice av A[i].length ac, .slice bv A[i].length bc] W fun e w2 => e = .returned (.bool true) ∧ Below W.heap.size W w2) := fun W hW => by
            have := same_any A[i] A[i] (g0 i) (g1 i) W ((HI0.out i hiA).next hW).sl ((HI1.out i hiA).next hW).sl
            rw [decide_eq_true rfl, hav, hbv] at this
            exact this
          have HIA : Hid (∀ k (hk : k < A[i].length), 0 ≤ A[i][k] ∧ A[i][k] < (V.seats.length : Int) ∧ clashB V A[i][k] i = true ∧ clashB (moreV km V) i A[i][k] = true) := HIN.out i hiA
          have HROW : Hid (Ven.Sl 1 Ven.intC w' (.slice av A[i].length ac) A[i]) := by
            show Ven.Sl 1 Ven.intC w' _ _
            rw [← hav]; exact (HI0.out i hiA).sl
          have HCA : Hid (∀ W, Below w'.heap.size w' W → W.cell? ⟨G0, i, none⟩ = some (.slice av A[i].length ac)) := fun W hW => by rw [((HR0.out.next hW).2 i hin).1, hav]
          have HCB : Hid (∀ W, Below w'.heap.size w' W → W.cell? ⟨G1, i, none⟩ = some (.slice bv A[i].length bc)) := fun W hW => by rw [((HR1.out.next hW).2 i hin).1, hbv]
          have HCC2 : Hid (∀ W, Below w'.heap.size w' W → W.cell? ⟨G2, i, none⟩ = some (.slice cv C[i].length cc)) := fun W hW => by rw [((HR2.out.next hW).2 i hin).1, hcv]
          clear hav hbv hcv
          have hnl : ¬ (C[i].length : Int) < (A[i].length : Int) := by omega
          have hnd : decide (C[i].length < A[i].length) = false := decide_eq_false (by omega)
          clear hle'
          generalize C[i].length = cn at HCC2 hnl hnd
          generalize A[i] = R at HCA HCB HSM HIA HROW hnl hnd hal
          have hne : Nonempty (BelowOf wr) := ⟨⟨wr, Below.refl _ wr⟩⟩
          have HT : Hid (∀ p : BelowOf wr, Below w'.heap.size w' p.w) := fun p => HX.out.trans (p.h.mono HX.out.size)
          have c0 := fun p : BelowOf wr => HCA.out p.w (HT.out p)
          have c1 := fun p : BelowOf wr => HCB.out p.w (HT.out p)
          have c2 := fun p : BelowOf wr => HCC2.out p.w (HT.out p)
          have sm := fun p : BelowOf wr => HSM.out p.w (HT.out p)
          go_wp2_with fail
          refine wp_region_quiet_below mixed (by kernel_rfl) ?_
          repeat (go_big_quiet_step ((go_at_call 13; exact Calls.below_of (sm _))))
          refine wpQuiet_nil ?_
          intro _ hw'
          obtain ⟨pp, hw''⟩ := hw'
          subst hw''
          have HX2 := hid' (HT.out pp)
          obtain ⟨w3, hb3'⟩ := pp
          simp only at HX2 ⊢
          clear c0 c1 c2 sm hne HT HX hb3' HCB HCC2 HSM
          go_wp2_with fail
          clear hnl hnd
          go_loopw [19, 20] (fun k _ wy => ∃ kk : Nat, kk ≤ R.length ∧ k = .int .i64 kk ∧ Hid (Below w'.heap.size w' wy)) (fun k _ _ => R.length - (intOf k).toNat)
          case atStart => exact ⟨0, Nat.zero_le _, rfl, HX2⟩
          case round =>
            clear HX2
            obtain ⟨kk, hkk, rfl, HY⟩ := hrel
            have c0 := HCA.out wr HY.out
            by_cases hkl : kk < R.length
            · have hkz : (kk : Int) < (R.length : Int) := by omega
              obtain ⟨j0, j1, j2, j3⟩ := HIA.out kk hkl
              obtain ⟨_, _, e1, _, hf⟩ := Sl.form (HROW.out.next HY.out)
              injection e1 with e1 _ e3
              subst e1 e3
              obtain ⟨rb, ro, rfl, hrc, hrl, hcell⟩ := hf kk hkl
              have c1 := hcell kk hkl
              clear hcell hf
              generalize R[kk] = j at j0 j1 j2 j3 c1
              have n1 : ¬ j < 0 := by omega
              have n2 : ¬ (V.seats.length : Int) ≤ j := by omega
              have HJ2 := hid' j2
              have HJ3 := hid' j3
              clear j0 j1 j2 j3
              obtain ⟨v0, v1, v2, v3, v4⟩ := (HX9.out.next HY.out).five
              have hcl1 := gclash_any _ _ _ _ _ _ _ _ _ V j i wr (HVV.out.next HY.out)
              rw [HJ2.out] at hcl1
              go_wp2_with fail
              refine hcl1.mono ?_
              rintro e w4 ⟨rfl, hb4⟩
              have HY4 := hid' (HY.out.trans (hb4.mono HY.out.size))
              clear hcl1 hb4 v0 v1 v2 v3 v4 c0 c1 HY
              obtain ⟨v0, v1, v2, v3, v4⟩ := (HX14.out.next HY4.out).five
              have hv4 := HVV.out.next HY4.out
              have hcl2 := gclash_any _ _ _ _ _ _ _ _ _ (moreV km V) i j w4 ⟨hv4.s, hv4.k, hv4.p⟩
              rw [HJ3.out] at hcl2
              clear hv4
              go_wp2_with fail
              refine hcl2.mono ?_
              rintro e w5 ⟨rfl, hb5⟩
              have HY5 := hid' (HY4.out.trans (hb5.mono HY4.out.size))
              clear hcl2 hb5 v0 v1 v2 v3 v4 HY4
              go_wp2_with fail
              exact ⟨⟨kk + 1, by omega, by go_num, HY5⟩, by simp [intOf]; omega⟩
            · have hkz : ¬ (kk : Int) < (R.length : Int) := by omega
              go_wp2_with fail
              exact ⟨⟨i + 1, by omega, by go_num, HY⟩, by simp [intOf]; omega⟩
        · have hiz : ¬ (i : Int) < (V.seats.length : Int) := by omega
          go_wp2_with fail
          refine (told_any _).mono ?_
          rintro e w4 ⟨rfl, hb4⟩
          have HF := hid' (HB3.out.trans ((HX.out.trans (hb4.mono HX.out.size)).mono HB3.out.size))
          clear hb4
          go_wp2
          go_ret
          exact ⟨rfl, HF.out⟩
end Go.Proofs.Ytgpkdjhllekihaa.Geo
