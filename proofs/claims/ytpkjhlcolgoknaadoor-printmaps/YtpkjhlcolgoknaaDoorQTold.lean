/- parterrelaw5.told answers true. -/
import Derived.Test.YtpkjhlcolgoknaaDoorQToldP
import Derived.Test.YtpkjhlcolgoknaaDoorQMap
namespace Go.Proofs.YtpkjhlcolgoknaaDoor.Prn
set_option linter.unusedVariables false
set_option maxRecDepth 100000
open Go.RowKit Go.Shelf
open Go.Proofs.YtpkjhlcolgoknaaDoor.Ven (Seat Pole Ven VenAt venV Box mayB mixed SeatAt below_alloc)

theorem own_nil (w : World) : Own w none 0 [] := ⟨rfl, Nat.zero_le _, .inl rfl⟩
theorem own_two (w : World) : Own (w.alloc (.cells #[.int .i64 0, .int .i64 3] 3)) (some ⟨w.heap.size, 0, none⟩) 2 [0, 3] :=
  ⟨rfl, by decide, .inr ⟨w.heap.size, 0, rfl, by simp, fun i hi => by
    have hb := Box.fresh w 3 #[.int .i64 0, .int .i64 3]
    match i, hi with
    | 0, _ => exact hb.cell 0 _ rfl
    | 1, _ => exact hb.cell 1 _ rfl⟩⟩
theorem ven_none (w : World) : VenAt w none 0 0 none 0 0 none 0 0 Z5 := ⟨.inl ⟨⟨_, _, rfl⟩, rfl⟩, .inl ⟨⟨_, _, rfl⟩, rfl⟩, .inl ⟨⟨_, _, rfl⟩, rfl⟩⟩
theorem venue_none (w : World) : Calls Tryd.prog 8 #[.agg #[.slice none 0 0, .int .i64 0, .int .i64 0, .slice none 0 0, .slice none 0 0]] w fun e w' => e = .returned (.tuple #[.string ⟨#[]⟩, .int .i64 1]) ∧ Below w.heap.size w w' := venue_no none none none 0 0 0 0 0 0 Z5 w (ven_none w) may_Z5
theorem map_none (w : World) : Calls Tryd.prog 12 #[.agg #[.slice none 0 0, .int .i64 0, .int .i64 0, .slice none 0 0, .slice none 0 0], .slice none 0 0] w fun e w' => e = .returned (.string ⟨#[]⟩) ∧ Below w.heap.size w w' := map_no none none none 0 0 0 0 0 0 Z5 none 0 0 w (ven_none w) may_Z5
theorem seat_nine (w : World) (hp : Pow w) : Calls Tryd.prog 10 #[.agg #[.int .i64 0, .int .i64 0, .int .i64 0, .int .i64 9]] w fun e w' => e = .returned (.string ⟨[63, 32, 48, 32, 48, 32, 48].toArray⟩) ∧ Below w.heap.size w w' := by
  have h := seat_any ⟨0, 0, 0, 9⟩ (by unfold I64; simp) (by unfold I64; simp) (by unfold I64; simp) w hp
  rw [seat_9] at h
  exact h
/-- The venue of told, in memory. -/
theorem ven_V5 (w : World) : VenAt (((w.alloc (.cells #[.int .i64 0, .int .i64 5, .int .i64 6, .int .i64 0, .int .i64 1, .int .i64 3, .int .i64 (-4), .int .i64 1, .int .i64 1, .int .i64 4, .int .i64 0, .int .i64 0] 28)).alloc (.cells #[.int .i64 2] 3)).alloc (.cells #[.int .i64 1, .int .i64 2, .int .i64 3] 42)) (some ⟨w.heap.size, 0, none⟩) 3 3 (some ⟨w.heap.size + 1, 0, none⟩) 1 1 (some ⟨w.heap.size + 1 + 1, 0, none⟩) 1 1 V5 := by
  have b1 := Box.fresh w 28 #[.int .i64 0, .int .i64 5, .int .i64 6, .int .i64 0, .int .i64 1, .int .i64 3, .int .i64 (-4), .int .i64 1, .int .i64 1, .int .i64 4, .int .i64 0, .int .i64 0]
  have b2 := Box.fresh (w.alloc (.cells #[.int .i64 0, .int .i64 5, .int .i64 6, .int .i64 0, .int .i64 1, .int .i64 3, .int .i64 (-4), .int .i64 1, .int .i64 1, .int .i64 4, .int .i64 0, .int .i64 0] 28)) 3 #[.int .i64 2]
  have b3 := Box.fresh ((w.alloc (.cells #[.int .i64 0, .int .i64 5, .int .i64 6, .int .i64 0, .int .i64 1, .int .i64 3, .int .i64 (-4), .int .i64 1, .int .i64 1, .int .i64 4, .int .i64 0, .int .i64 0] 28)).alloc (.cells #[.int .i64 2] 3)) 42 #[.int .i64 1, .int .i64 2, .int .i64 3]
  rw [World.size_alloc] at b2
  rw [World.size_alloc, World.size_alloc] at b3
  refine ⟨.inr ⟨w.heap.size, 0, 3, rfl, by decide, by decide, ?_⟩, .inr ⟨w.heap.size + 1, 0, 1, rfl, by decide, by decide, ?_⟩, .inr ⟨w.heap.size + 1 + 1, 0, 1, rfl, by decide, by decide, ?_⟩⟩
  · exact Ven.Box.cells (k := 4) (enc := Ven.seatC) (fun _ => rfl) ((b1.next (below_alloc _ _)).next (below_alloc _ _)) rfl
  · exact Ven.Box.cells (k := 1) (enc := Ven.intC) (fun _ => rfl) (b2.next (below_alloc _ _)) rfl
  · exact Ven.Box.cells (k := 3) (enc := Ven.poleC) (fun _ => rfl) b3 rfl
set_option maxHeartbeats 4000000 in
theorem told_any (w : World) (hp : Pow w) : Calls Tryd.prog 7 #[] w fun e w' => e = .returned (.bool true) ∧ Below w.heap.size w w' := by
  have HP : Hid (Pow w) := hp
  clear hp
  go_enter Tryd.func7, Tryd.ntmps7
  go_wp2_with fail
  have ha := (ven_V5 w).next (below_alloc _ (.cells #[.slice (some ⟨w.heap.size, 0, none⟩) 3 3, .int .i64 2, .int .i64 1, .slice (some ⟨w.heap.size + 1, 0, none⟩) 1 1, .slice (some ⟨w.heap.size + 1 + 1, 0, none⟩) 1 1] 26))
  have hx := Box.fresh (((w.alloc (.cells #[.int .i64 0, .int .i64 5, .int .i64 6, .int .i64 0, .int .i64 1, .int .i64 3, .int .i64 (-4), .int .i64 1, .int .i64 1, .int .i64 4, .int .i64 0, .int .i64 0] 28)).alloc (.cells #[.int .i64 2] 3)).alloc (.cells #[.int .i64 1, .int .i64 2, .int .i64 3] 42)) 26 #[.slice (some ⟨w.heap.size, 0, none⟩) 3 3, .int .i64 2, .int .i64 1, .slice (some ⟨w.heap.size + 1, 0, none⟩) 1 1, .slice (some ⟨w.heap.size + 1 + 1, 0, none⟩) 1 1]
  simp only [World.size_alloc] at hx
  have hb : Below w.heap.size w ((((w.alloc (.cells #[.int .i64 0, .int .i64 5, .int .i64 6, .int .i64 0, .int .i64 1, .int .i64 3, .int .i64 (-4), .int .i64 1, .int .i64 1, .int .i64 4, .int .i64 0, .int .i64 0] 28)).alloc (.cells #[.int .i64 2] 3)).alloc (.cells #[.int .i64 1, .int .i64 2, .int .i64 3] 42)).alloc (.cells #[.slice (some ⟨w.heap.size, 0, none⟩) 3 3, .int .i64 2, .int .i64 1, .slice (some ⟨w.heap.size + 1, 0, none⟩) 1 1, .slice (some ⟨w.heap.size + 1 + 1, 0, none⟩) 1 1] 26)) := (((((Below.refl _ w).alloc (Nat.le_refl _) _).alloc (by simp) _).alloc (by simp; omega) _).alloc (by simp; omega) _)
  have HB : Hid (Below w.heap.size w ((((w.alloc (.cells #[.int .i64 0, .int .i64 5, .int .i64 6, .int .i64 0, .int .i64 1, .int .i64 3, .int .i64 (-4), .int .i64 1, .int .i64 1, .int .i64 4, .int .i64 0, .int .i64 0] 28)).alloc (.cells #[.int .i64 2] 3)).alloc (.cells #[.int .i64 1, .int .i64 2, .int .i64 3] 42)).alloc (.cells #[.slice (some ⟨w.heap.size, 0, none⟩) 3 3, .int .i64 2, .int .i64 1, .slice (some ⟨w.heap.size + 1, 0, none⟩) 1 1, .slice (some ⟨w.heap.size + 1 + 1, 0, none⟩) 1 1] 26))) := hb
  have HA : Hid (VenAt ((((w.alloc (.cells #[.int .i64 0, .int .i64 5, .int .i64 6, .int .i64 0, .int .i64 1, .int .i64 3, .int .i64 (-4), .int .i64 1, .int .i64 1, .int .i64 4, .int .i64 0, .int .i64 0] 28)).alloc (.cells #[.int .i64 2] 3)).alloc (.cells #[.int .i64 1, .int .i64 2, .int .i64 3] 42)).alloc (.cells #[.slice (some ⟨w.heap.size, 0, none⟩) 3 3, .int .i64 2, .int .i64 1, .slice (some ⟨w.heap.size + 1, 0, none⟩) 1 1, .slice (some ⟨w.heap.size + 1 + 1, 0, none⟩) 1 1] 26)) (some ⟨w.heap.size, 0, none⟩) 3 3 (some ⟨w.heap.size + 1, 0, none⟩) 1 1 (some ⟨w.heap.size + 1 + 1, 0, none⟩) 1 1 V5) := ha
  have HX : Hid (Box ((((w.alloc (.cells #[.int .i64 0, .int .i64 5, .int .i64 6, .int .i64 0, .int .i64 1, .int .i64 3, .int .i64 (-4), .int .i64 1, .int .i64 1, .int .i64 4, .int .i64 0, .int .i64 0] 28)).alloc (.cells #[.int .i64 2] 3)).alloc (.cells #[.int .i64 1, .int .i64 2, .int .i64 3] 42)).alloc (.cells #[.slice (some ⟨w.heap.size, 0, none⟩) 3 3, .int .i64 2, .int .i64 1, .slice (some ⟨w.heap.size + 1, 0, none⟩) 1 1, .slice (some ⟨w.heap.size + 1 + 1, 0, none⟩) 1 1] 26)) (w.heap.size + 1 + 1 + 1) 26 #[.slice (some ⟨w.heap.size, 0, none⟩) 3 3, .int .i64 2, .int .i64 1, .slice (some ⟨w.heap.size + 1, 0, none⟩) 1 1, .slice (some ⟨w.heap.size + 1 + 1, 0, none⟩) 1 1]) := hx
  clear ha hx hb
  generalize (((w.alloc (.cells #[.int .i64 0, .int .i64 5, .int .i64 6, .int .i64 0, .int .i64 1, .int .i64 3, .int .i64 (-4), .int .i64 1, .int .i64 1, .int .i64 4, .int .i64 0, .int .i64 0] 28)).alloc (.cells #[.int .i64 2] 3)).alloc (.cells #[.int .i64 1, .int .i64 2, .int .i64 3] 42)).alloc (.cells #[.slice (some ⟨w.heap.size, 0, none⟩) 3 3, .int .i64 2, .int .i64 1, .slice (some ⟨w.heap.size + 1, 0, none⟩) 1 1, .slice (some ⟨w.heap.size + 1 + 1, 0, none⟩) 1 1] 26) = W4 at HA HB HX ⊢
  generalize w.heap.size + 1 + 1 + 1 = q at HX ⊢
  generalize w.heap.size + 1 + 1 = b3 at HA HX ⊢
  generalize w.heap.size + 1 = b2 at HA HX ⊢
  generalize hb1 : w.heap.size = b1 at HA HX ⊢
  clear hb1
  have HPW : Hid (∀ W, Below w.heap.size w W → Pow W) := fun W hW => HP.out.next hW
  have HT : Hid (∀ W, Below W4.heap.size W4 W → Below w.heap.size w W) := fun W hW => HB.out.trans (hW.mono HB.out.size)
  have HVV : Hid (∀ W, Below W4.heap.size W4 W → Calls Tryd.prog 8 #[.agg #[.slice (some ⟨b1, 0, none⟩) 3 3, .int .i64 2, .int .i64 1, .slice (some ⟨b2, 0, none⟩) 1 1, .slice (some ⟨b3, 0, none⟩) 1 1]] W fun e w' => e = .returned (.tuple #[.string ⟨(printL V5).toArray⟩, .int .i64 0]) ∧ Below W.heap.size W w') := fun W hW => venue_yes _ _ _ 3 3 1 1 1 1 V5 W (HA.out.next hW) may_V5 (HPW.out W (HT.out W hW))
  have HM1 : Hid (∀ W, Below W4.heap.size W4 W → Calls Tryd.prog 12 #[.agg #[.slice (some ⟨b1, 0, none⟩) 3 3, .int .i64 2, .int .i64 1, .slice (some ⟨b2, 0, none⟩) 1 1, .slice (some ⟨b3, 0, none⟩) 1 1], .slice (some ⟨W.heap.size, 0, none⟩) 2 2] (W.alloc (.cells #[.int .i64 0, .int .i64 3] 3)) fun e w' => e = .returned (.string ⟨(mapL V5 [0, 3]).toArray⟩) ∧ Below W.heap.size W w') := fun W hW => (map_yes _ _ _ 3 3 1 1 1 1 V5 _ 2 2 [0, 3] _ ((HA.out.next hW).next (below_alloc W _)) may_V5 ((HPW.out W (HT.out W hW)).next (below_alloc W _)) (own_two W)).mono fun e w' ⟨he, h⟩ => ⟨he, (below_alloc W _).trans (h.mono (below_alloc W _).size)⟩
  have HM2 : Hid (∀ W, Below W4.heap.size W4 W → Calls Tryd.prog 12 #[.agg #[.slice (some ⟨b1, 0, none⟩) 3 3, .int .i64 2, .int .i64 1, .slice (some ⟨b2, 0, none⟩) 1 1, .slice (some ⟨b3, 0, none⟩) 1 1], .slice none 0 0] W fun e w' => e = .returned (.string ⟨(mapL V5 []).toArray⟩) ∧ Below W.heap.size W w') := fun W hW => map_yes _ _ _ 3 3 1 1 1 1 V5 none 0 0 [] W (HA.out.next hW) may_V5 (HPW.out W (HT.out W hW)) (own_nil W)
  rw [print_V5] at HVV
  rw [map_V5] at HM1
  rw [map_V5n] at HM2
  clear HA
  refine (HVV.out W4 (Below.refl _ _)).mono ?_
  rintro e w5 ⟨rfl, hb5⟩
  have H5 : Hid (Below W4.heap.size W4 w5) := hb5
  clear hb5 HVV
  go_wp2_with fail
  refine (venue_none w5).mono ?_
  rintro e w6 ⟨rfl, hb6⟩
  have H6 : Hid (Below W4.heap.size W4 w6) := H5.out.trans (hb6.mono H5.out.size)
  clear hb6 H5
  go_wp2_with fail
  refine (seat_nine w6 (HPW.out _ (HT.out _ H6.out))).mono ?_
  rintro e w7 ⟨rfl, hb7⟩
  have H7 : Hid (Below W4.heap.size W4 w7) := H6.out.trans (hb7.mono H6.out.size)
  clear hb7 H6
  obtain ⟨v0, v1, v2, v3, v4⟩ := (HX.out.next H7.out).five
  have vl := (HX.out.next H7.out).lt
  go_wp2_with fail
  refine (HM1.out w7 H7.out).mono ?_
  rintro e w8 ⟨rfl, hb8⟩
  have H8 : Hid (Below W4.heap.size W4 w8) := H7.out.trans (hb8.mono H7.out.size)
  clear hb8 H7 HM1 v0 v1 v2 v3 v4 vl
  obtain ⟨v0, v1, v2, v3, v4⟩ := (HX.out.next H8.out).five
  have vl := (HX.out.next H8.out).lt
  go_wp2_with fail
  refine (HM2.out w8 H8.out).mono ?_
  rintro e w9 ⟨rfl, hb9⟩
  have H9 : Hid (Below W4.heap.size W4 w9) := H8.out.trans (hb9.mono H8.out.size)
  clear hb9 H8 HM2 v0 v1 v2 v3 v4 vl
  go_wp2_with fail
  refine (map_none w9).mono ?_
  rintro e wa ⟨rfl, hba⟩
  have HF : Hid (Below w.heap.size w wa) := HT.out _ (H9.out.trans (hba.mono H9.out.size))
  clear hba H9
  go_wp2
  go_ret
  exact ⟨rfl, HF.out⟩
end Go.Proofs.YtpkjhlcolgoknaaDoor.Prn
