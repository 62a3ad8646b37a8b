/- VenueEdges, part by part. -/
import Derived.Test.YtoaapngfbidllaaEdgeP
namespace Go.Proofs.Ytoaapngfbidllaa
set_option linter.unusedVariables false
open Go.RowKit Go.Shelf

set_option maxRecDepth 100000 in
set_option maxHeartbeats 4000000 in
theorem edges_3_in (part edge : Int) (e : Nat) (he : e < 4) (hk : (IntKind.u64.wrap part).tmod 10 = 3) (hee : (IntKind.u64.wrap edge).tmod 4 = e) (n : Int) (hn : edgeN 0 2 e = n) (he1 : ¬ (1 : Int) < (e : Int))
    (hwr : wrongL ⟨[⟨0, 0, 0, n⟩], 1, 0, [0], [⟨0, 0, 1⟩]⟩ = []) (w : World) :
    Calls Try.prog 5 #[.int .i64 part, .int .i64 edge] w fun e w' => e = .returned (.bool true) ∧ Below w.heap.size w w' := by
  have hez : (e : Int) < 4 := by omega
  have hma : mayB ⟨[⟨0, 0, 0, n⟩], 1, 0, [0], [⟨0, 0, 1⟩]⟩ = true := (mayB_wrong _).mp hwr
  have HWR : Hid (wrongL ⟨[⟨0, 0, 0, n⟩], 1, 0, [0], [⟨0, 0, 1⟩]⟩ = []) := hwr
  have HMA : Hid (mayB ⟨[⟨0, 0, 0, n⟩], 1, 0, [0], [⟨0, 0, 1⟩]⟩ = true) := hma
  clear hwr hma
  go_enter Try.func5, Try.ntmps5
  go_wp2_with fail
  have f0 := ((Box.fresh w 3 #[.int .i64 0, .int .i64 (-1048576), .int .i64 (-1048576), .int .i64 0, .int .i64 1, .int .i64 0, .int .i64 0, .int .i64 (-1048576), .int .i64 (-1048576), .int .i64 1]).up (.cells #[.int .i64 999, .int .i64 1048576, .int .i64 1048576, .int .i64 2, .int .i64 1048576, .int .i64 1048576, .int .i64 0, .int .i64 1048576, .int .i64 1048576, .int .i64 1048576] 3)).up (.cells #[.string ⟨#[115, 101, 97, 116, 115]⟩, .string ⟨#[115, 101, 97, 116, 115]⟩, .string ⟨#[115, 101, 97, 116, 115]⟩, .string ⟨#[115, 101, 97, 116, 115]⟩, .string ⟨#[103, 97, 112]⟩, .string ⟨#[114, 97, 100, 105, 117, 115]⟩, .string ⟨#[107, 105, 108, 108, 115]⟩, .string ⟨#[112, 111, 108, 101, 115]⟩, .string ⟨#[112, 111, 108, 101, 115]⟩, .string ⟨#[112, 111, 108, 101, 115]⟩] 9)
  have f1 := (Box.fresh (w.alloc (.cells #[.int .i64 0, .int .i64 (-1048576), .int .i64 (-1048576), .int .i64 0, .int .i64 1, .int .i64 0, .int .i64 0, .int .i64 (-1048576), .int .i64 (-1048576), .int .i64 1] 3)) 3 #[.int .i64 999, .int .i64 1048576, .int .i64 1048576, .int .i64 2, .int .i64 1048576, .int .i64 1048576, .int .i64 0, .int .i64 1048576, .int .i64 1048576, .int .i64 1048576]).up (.cells #[.string ⟨#[115, 101, 97, 116, 115]⟩, .string ⟨#[115, 101, 97, 116, 115]⟩, .string ⟨#[115, 101, 97, 116, 115]⟩, .string ⟨#[115, 101, 97, 116, 115]⟩, .string ⟨#[103, 97, 112]⟩, .string ⟨#[114, 97, 100, 105, 117, 115]⟩, .string ⟨#[107, 105, 108, 108, 115]⟩, .string ⟨#[112, 111, 108, 101, 115]⟩, .string ⟨#[112, 111, 108, 101, 115]⟩, .string ⟨#[112, 111, 108, 101, 115]⟩] 9)
  have f2 := Box.fresh ((w.alloc (.cells #[.int .i64 0, .int .i64 (-1048576), .int .i64 (-1048576), .int .i64 0, .int .i64 1, .int .i64 0, .int .i64 0, .int .i64 (-1048576), .int .i64 (-1048576), .int .i64 1] 3)).alloc (.cells #[.int .i64 999, .int .i64 1048576, .int .i64 1048576, .int .i64 2, .int .i64 1048576, .int .i64 1048576, .int .i64 0, .int .i64 1048576, .int .i64 1048576, .int .i64 1048576] 3)) 9 #[.string ⟨#[115, 101, 97, 116, 115]⟩, .string ⟨#[115, 101, 97, 116, 115]⟩, .string ⟨#[115, 101, 97, 116, 115]⟩, .string ⟨#[115, 101, 97, 116, 115]⟩, .string ⟨#[103, 97, 112]⟩, .string ⟨#[114, 97, 100, 105, 117, 115]⟩, .string ⟨#[107, 105, 108, 108, 115]⟩, .string ⟨#[112, 111, 108, 101, 115]⟩, .string ⟨#[112, 111, 108, 101, 115]⟩, .string ⟨#[112, 111, 108, 101, 115]⟩]
  have fb : Below w.heap.size w (((w.alloc (.cells #[.int .i64 0, .int .i64 (-1048576), .int .i64 (-1048576), .int .i64 0, .int .i64 1, .int .i64 0, .int .i64 0, .int .i64 (-1048576), .int .i64 (-1048576), .int .i64 1] 3)).alloc (.cells #[.int .i64 999, .int .i64 1048576, .int .i64 1048576, .int .i64 2, .int .i64 1048576, .int .i64 1048576, .int .i64 0, .int .i64 1048576, .int .i64 1048576, .int .i64 1048576] 3)).alloc (.cells #[.string ⟨#[115, 101, 97, 116, 115]⟩, .string ⟨#[115, 101, 97, 116, 115]⟩, .string ⟨#[115, 101, 97, 116, 115]⟩, .string ⟨#[115, 101, 97, 116, 115]⟩, .string ⟨#[103, 97, 112]⟩, .string ⟨#[114, 97, 100, 105, 117, 115]⟩, .string ⟨#[107, 105, 108, 108, 115]⟩, .string ⟨#[112, 111, 108, 101, 115]⟩, .string ⟨#[112, 111, 108, 101, 115]⟩, .string ⟨#[112, 111, 108, 101, 115]⟩] 9)) := ((below_alloc w _).alloc (by simp) _).alloc (by simp; omega) _
  have fs : w.heap.size + 1 + 1 < (((w.alloc (.cells #[.int .i64 0, .int .i64 (-1048576), .int .i64 (-1048576), .int .i64 0, .int .i64 1, .int .i64 0, .int .i64 0, .int .i64 (-1048576), .int .i64 (-1048576), .int .i64 1] 3)).alloc (.cells #[.int .i64 999, .int .i64 1048576, .int .i64 1048576, .int .i64 2, .int .i64 1048576, .int .i64 1048576, .int .i64 0, .int .i64 1048576, .int .i64 1048576, .int .i64 1048576] 3)).alloc (.cells #[.string ⟨#[115, 101, 97, 116, 115]⟩, .string ⟨#[115, 101, 97, 116, 115]⟩, .string ⟨#[115, 101, 97, 116, 115]⟩, .string ⟨#[115, 101, 97, 116, 115]⟩, .string ⟨#[103, 97, 112]⟩, .string ⟨#[114, 97, 100, 105, 117, 115]⟩, .string ⟨#[107, 105, 108, 108, 115]⟩, .string ⟨#[112, 111, 108, 101, 115]⟩, .string ⟨#[112, 111, 108, 101, 115]⟩, .string ⟨#[112, 111, 108, 101, 115]⟩] 9)).heap.size := by simp
  simp only [World.size_alloc] at f1 f2
  generalize (((w.alloc (.cells #[.int .i64 0, .int .i64 (-1048576), .int .i64 (-1048576), .int .i64 0, .int .i64 1, .int .i64 0, .int .i64 0, .int .i64 (-1048576), .int .i64 (-1048576), .int .i64 1] 3)).alloc (.cells #[.int .i64 999, .int .i64 1048576, .int .i64 1048576, .int .i64 2, .int .i64 1048576, .int .i64 1048576, .int .i64 0, .int .i64 1048576, .int .i64 1048576, .int .i64 1048576] 3)).alloc (.cells #[.string ⟨#[115, 101, 97, 116, 115]⟩, .string ⟨#[115, 101, 97, 116, 115]⟩, .string ⟨#[115, 101, 97, 116, 115]⟩, .string ⟨#[115, 101, 97, 116, 115]⟩, .string ⟨#[103, 97, 112]⟩, .string ⟨#[114, 97, 100, 105, 117, 115]⟩, .string ⟨#[107, 105, 108, 108, 115]⟩, .string ⟨#[112, 111, 108, 101, 115]⟩, .string ⟨#[112, 111, 108, 101, 115]⟩, .string ⟨#[112, 111, 108, 101, 115]⟩] 9)) = W3 at f0 f1 f2 fb fs ⊢
  refine region5_5 _ ?_ 3 e w.heap.size (w.heap.size + 1) 0 2 n (by decide) hez _ (wrapI _ (by omega) (by omega)) (wrapI _ (by omega) (by omega)) (f0.cell 3 _ rfl) (f1.cell 3 _ rfl) (by rw [← hn]; exact edge_cell _ 0 2 e he) _ _ _ _ _ _ _ _ _ _ _ _ _ _ _ _ _ _ _ _ _ _ _ _ _ _ _ _ _ _ _ _ _ _ _ _ _ _ _ _ _ _ _ _ _ _ _ _ _ _ _ _ _ _ _ _ _ _ _ _ _ _ _ _ _ _ _ _ _ _ _ _ _ _ _ _ _ _ _ _ _ _ _ _ _ _ _ _ _ _ _ _ _ _ _ _ _ _ _ _ _ _ _ _ _ _ _ _ _ _ _ _ _ ?_
  · intro c a a' w h; exact absurd h.2 (by first | (intro h2; cases h2.1) | (intro h2; cases h2))
  have g2 := (f2.up (.cells #[.int .i64 0, .int .i64 2, .int .i64 (0 - 1), .int .i64 (2 + 1)] 3)).next (Below.refl _ _).drew
  have gb : Below w.heap.size w (W3.alloc (.cells #[.int .i64 0, .int .i64 2, .int .i64 (0 - 1), .int .i64 (2 + 1)] 3)).drew := (fb.alloc fb.size _).drew
  have gs : w.heap.size + 1 + 1 < (W3.alloc (.cells #[.int .i64 0, .int .i64 2, .int .i64 (0 - 1), .int .i64 (2 + 1)] 3)).drew.heap.size := by
    show _ < (W3.alloc (.cells #[.int .i64 0, .int .i64 2, .int .i64 (0 - 1), .int .i64 (2 + 1)] 3)).heap.size
    simp; omega
  generalize (W3.alloc (.cells #[.int .i64 0, .int .i64 2, .int .i64 (0 - 1), .int .i64 (2 + 1)] 3)).drew = W4 at g2 gb gs ⊢
  clear f0 f1 f2 fb fs hn
  go_wp2_with fail
  have k1 := ((Box.fresh W4 34 #[.int .i64 0, .int .i64 0, .int .i64 0, .int .i64 n]).up (.cells #[.int .i64 0, .int .i64 0, .int .i64 1] 39) |>.up (.cells #[.int .i64 0] 3)).up (.cells #[.slice none 0 0, .int .i64 1, .int .i64 0, .slice (some ⟨W4.heap.size + 1 + 1, 0, none⟩) 1 1, .slice none 0 0] 26)
  have k2 := ((Box.fresh (W4.alloc (.cells #[.int .i64 0, .int .i64 0, .int .i64 0, .int .i64 n] 34)) 39 #[.int .i64 0, .int .i64 0, .int .i64 1]).up (.cells #[.int .i64 0] 3)).up (.cells #[.slice none 0 0, .int .i64 1, .int .i64 0, .slice (some ⟨W4.heap.size + 1 + 1, 0, none⟩) 1 1, .slice none 0 0] 26)
  have k3 := (Box.fresh ((W4.alloc (.cells #[.int .i64 0, .int .i64 0, .int .i64 0, .int .i64 n] 34)).alloc (.cells #[.int .i64 0, .int .i64 0, .int .i64 1] 39)) 3 #[.int .i64 0]).up (.cells #[.slice none 0 0, .int .i64 1, .int .i64 0, .slice (some ⟨W4.heap.size + 1 + 1, 0, none⟩) 1 1, .slice none 0 0] 26)
  have k4 := Box.fresh (((W4.alloc (.cells #[.int .i64 0, .int .i64 0, .int .i64 0, .int .i64 n] 34)).alloc (.cells #[.int .i64 0, .int .i64 0, .int .i64 1] 39)).alloc (.cells #[.int .i64 0] 3)) 26 #[.slice none 0 0, .int .i64 1, .int .i64 0, .slice (some ⟨W4.heap.size + 1 + 1, 0, none⟩) 1 1, .slice none 0 0]
  have k5 := ((g2.up (.cells #[.int .i64 0, .int .i64 0, .int .i64 0, .int .i64 n] 34)).up (.cells #[.int .i64 0, .int .i64 0, .int .i64 1] 39) |>.up (.cells #[.int .i64 0] 3)).up (.cells #[.slice none 0 0, .int .i64 1, .int .i64 0, .slice (some ⟨W4.heap.size + 1 + 1, 0, none⟩) 1 1, .slice none 0 0] 26)
  have kb : Below w.heap.size w ((((W4.alloc (.cells #[.int .i64 0, .int .i64 0, .int .i64 0, .int .i64 n] 34)).alloc (.cells #[.int .i64 0, .int .i64 0, .int .i64 1] 39)).alloc (.cells #[.int .i64 0] 3)).alloc (.cells #[.slice none 0 0, .int .i64 1, .int .i64 0, .slice (some ⟨W4.heap.size + 1 + 1, 0, none⟩) 1 1, .slice none 0 0] 26)) := (((gb.alloc (by omega) _).alloc (by simp; omega) _).alloc (by simp; omega) _).alloc (by simp; omega) _
  have ks : W4.heap.size + 1 + 1 + 1 < ((((W4.alloc (.cells #[.int .i64 0, .int .i64 0, .int .i64 0, .int .i64 n] 34)).alloc (.cells #[.int .i64 0, .int .i64 0, .int .i64 1] 39)).alloc (.cells #[.int .i64 0] 3)).alloc (.cells #[.slice none 0 0, .int .i64 1, .int .i64 0, .slice (some ⟨W4.heap.size + 1 + 1, 0, none⟩) 1 1, .slice none 0 0] 26)).heap.size := by simp
  simp only [World.size_alloc] at k2 k3 k4
  generalize ((((W4.alloc (.cells #[.int .i64 0, .int .i64 0, .int .i64 0, .int .i64 n] 34)).alloc (.cells #[.int .i64 0, .int .i64 0, .int .i64 1] 39)).alloc (.cells #[.int .i64 0] 3)).alloc (.cells #[.slice none 0 0, .int .i64 1, .int .i64 0, .slice (some ⟨W4.heap.size + 1 + 1, 0, none⟩) 1 1, .slice none 0 0] 26)) = W5 at k1 k2 k3 k4 k5 kb ks ⊢
  refine region5_29 _ ?_ 0 0 0 n 0 0 1 _ _ _ W4.heap.size (W4.heap.size + 1) (W4.heap.size + 1 + 1 + 1) w.heap.size w W5 (by omega) (by omega) (by omega) (by omega) kb k1 k2 k4 _ _ _ _ _ _ _ _ _ _ _ _ _ _ _ _ _ _ _ _ _ _ _ _ _ _ _ _ _ _ _ _ _ _ _ _ _ _ _ _ _ _ _ _ _ _ _ _ _ _ _ _ _ _ _ _ _ _ _ _ _ _ _ _ _ _ _ _ _ _ _ _ _ _ _ _ _ _ _ _ _ _ _ _ _ _ _ _ _ _ _ _ _ _ _ _ _ _ _ _ _ _ _ _ _ _ _ _ _ _ _ _ _ _ ?_
  · intro c a a' w h; exact absurd h.2 (by first | (intro h2; cases h2.1) | (intro h2; cases h2))
  intro W6 sb pb hb hsz hkeep hsb hS hpb hP hx
  have hK := hkeep _ _ _ (by omega) k3
  have hN := hkeep _ _ _ (by omega) k5
  have hv : VenAt W6 (some ⟨sb, 0, none⟩) 1 1 (some ⟨W4.heap.size + 1 + 1, 0, none⟩) 1 1 (some ⟨pb, 0, none⟩) 1 1 ⟨[⟨0, 0, 0, n⟩], 1, 0, [0], [⟨0, 0, 1⟩]⟩ :=
    ⟨.inr ⟨_, _, _, rfl, Nat.le_refl _, by decide, hS.cells seatC_len rfl⟩, .inr ⟨_, _, _, rfl, Nat.le_refl _, by decide, hK.cells intC_len rfl⟩, .inr ⟨_, _, _, rfl, Nat.le_refl _, by decide, hP.cells poleC_len rfl⟩⟩
  have hm := fun w' hb => may_any (some ⟨sb, 0, none⟩) (some ⟨W4.heap.size + 1 + 1, 0, none⟩) (some ⟨pb, 0, none⟩) 1 1 1 1 1 1 ⟨[⟨0, 0, 0, n⟩], 1, 0, [0], [⟨0, 0, 1⟩]⟩ w' (hv.next (w' := w') hb)
  have hw := fun w' hb => wrong_any (some ⟨sb, 0, none⟩) (some ⟨W4.heap.size + 1 + 1, 0, none⟩) (some ⟨pb, 0, none⟩) 1 1 1 1 1 1 ⟨[⟨0, 0, 0, n⟩], 1, 0, [0], [⟨0, 0, 1⟩]⟩ w' (hv.next (w' := w') hb)
  rw [HMA.out] at hm
  rw [HWR.out] at hw
  have cN := hN.cell 3 _ rfl
  have lN := hN.lt
  clear k1 k2 k3 k4 k5 kb ks hkeep hS hP hK hN hv g2 gb
  go_wp2_with fail
  refine (told_any _).mono ?_
  rintro e' w3 ⟨rfl, b3⟩
  obtain ⟨c0, c1, c2, c3, c4⟩ := (hx.next b3).five
  have l3 := (hx.next b3).lt
  go_wp2_with fail
  refine (hw _ b3).mono ?_
  rintro e' w4 ⟨rfl, b4⟩
  have b34 := b3.trans (b4.mono b3.size)
  obtain ⟨d0, d1, d2, d3, d4⟩ := (hx.next b34).five
  have l4 := (hx.next b34).lt
  clear c0 c1 c2 c3 c4
  go_wp2_with fail
  refine (hm _ b34).mono ?_
  rintro e' w5 ⟨rfl, b5⟩
  have hB5 : Below w.heap.size w w5 := hb.trans ((b34.trans (b5.mono b34.size)).mono hb.size)
  go_wp2
  go_ret
  exact ⟨rfl, hB5⟩
set_option maxRecDepth 100000 in
set_option maxHeartbeats 4000000 in
theorem edges_3_out (part edge : Int) (e : Nat) (he : e < 4) (hk : (IntKind.u64.wrap part).tmod 10 = 3) (hee : (IntKind.u64.wrap edge).tmod 4 = e) (n : Int) (hn : edgeN 0 2 e = n) (he1 : (1 : Int) < (e : Int))
    (hwr : wrongL ⟨[⟨0, 0, 0, n⟩], 1, 0, [0], [⟨0, 0, 1⟩]⟩ = [115, 101, 97, 116, 115]) (w : World) :
    Calls Try.prog 5 #[.int .i64 part, .int .i64 edge] w fun e w' => e = .returned (.bool true) ∧ Below w.heap.size w w' := by
  have hez : (e : Int) < 4 := by omega
  have hma : mayB ⟨[⟨0, 0, 0, n⟩], 1, 0, [0], [⟨0, 0, 1⟩]⟩ = false := may_no _ (by rw [hwr]; simp)
  have HWR : Hid (wrongL ⟨[⟨0, 0, 0, n⟩], 1, 0, [0], [⟨0, 0, 1⟩]⟩ = [115, 101, 97, 116, 115]) := hwr
  have HMA : Hid (mayB ⟨[⟨0, 0, 0, n⟩], 1, 0, [0], [⟨0, 0, 1⟩]⟩ = false) := hma
  clear hwr hma
  go_enter Try.func5, Try.ntmps5
  go_wp2_with fail
  have f0 := ((Box.fresh w 3 #[.int .i64 0, .int .i64 (-1048576), .int .i64 (-1048576), .int .i64 0, .int .i64 1, .int .i64 0, .int .i64 0, .int .i64 (-1048576), .int .i64 (-1048576), .int .i64 1]).up (.cells #[.int .i64 999, .int .i64 1048576, .int .i64 1048576, .int .i64 2, .int .i64 1048576, .int .i64 1048576, .int .i64 0, .int .i64 1048576, .int .i64 1048576, .int .i64 1048576] 3)).up (.cells #[.string ⟨#[115, 101, 97, 116, 115]⟩, .string ⟨#[115, 101, 97, 116, 115]⟩, .string ⟨#[115, 101, 97, 116, 115]⟩, .string ⟨#[115, 101, 97, 116, 115]⟩, .string ⟨#[103, 97, 112]⟩, .string ⟨#[114, 97, 100, 105, 117, 115]⟩, .string ⟨#[107, 105, 108, 108, 115]⟩, .string ⟨#[112, 111, 108, 101, 115]⟩, .string ⟨#[112, 111, 108, 101, 115]⟩, .string ⟨#[112, 111, 108, 101, 115]⟩] 9)
  have f1 := (Box.fresh (w.alloc (.cells #[.int .i64 0, .int .i64 (-1048576), .int .i64 (-1048576), .int .i64 0, .int .i64 1, .int .i64 0, .int .i64 0, .int .i64 (-1048576), .int .i64 (-1048576), .int .i64 1] 3)) 3 #[.int .i64 999, .int .i64 1048576, .int .i64 1048576, .int .i64 2, .int .i64 1048576, .int .i64 1048576, .int .i64 0, .int .i64 1048576, .int .i64 1048576, .int .i64 1048576]).up (.cells #[.string ⟨#[115, 101, 97, 116, 115]⟩, .string ⟨#[115, 101, 97, 116, 115]⟩, .string ⟨#[115, 101, 97, 116, 115]⟩, .string ⟨#[115, 101, 97, 116, 115]⟩, .string ⟨#[103, 97, 112]⟩, .string ⟨#[114, 97, 100, 105, 117, 115]⟩, .string ⟨#[107, 105, 108, 108, 115]⟩, .string ⟨#[112, 111, 108, 101, 115]⟩, .string ⟨#[112, 111, 108, 101, 115]⟩, .string ⟨#[112, 111, 108, 101, 115]⟩] 9)
  have f2 := Box.fresh ((w.alloc (.cells #[.int .i64 0, .int .i64 (-1048576), .int .i64 (-1048576), .int .i64 0, .int .i64 1, .int .i64 0, .int .i64 0, .int .i64 (-1048576), .int .i64 (-1048576), .int .i64 1] 3)).alloc (.cells #[.int .i64 999, .int .i64 1048576, .int .i64 1048576, .int .i64 2, .int .i64 1048576, .int .i64 1048576, .int .i64 0, .int .i64 1048576, .int .i64 1048576, .int .i64 1048576] 3)) 9 #[.string ⟨#[115, 101, 97, 116, 115]⟩, .string ⟨#[115, 101, 97, 116, 115]⟩, .string ⟨#[115, 101, 97, 116, 115]⟩, .string ⟨#[115, 101, 97, 116, 115]⟩, .string ⟨#[103, 97, 112]⟩, .string ⟨#[114, 97, 100, 105, 117, 115]⟩, .string ⟨#[107, 105, 108, 108, 115]⟩, .string ⟨#[112, 111, 108, 101, 115]⟩, .string ⟨#[112, 111, 108, 101, 115]⟩, .string ⟨#[112, 111, 108, 101, 115]⟩]
  have fb : Below w.heap.size w (((w.alloc (.cells #[.int .i64 0, .int .i64 (-1048576), .int .i64 (-1048576), .int .i64 0, .int .i64 1, .int .i64 0, .int .i64 0, .int .i64 (-1048576), .int .i64 (-1048576), .int .i64 1] 3)).alloc (.cells #[.int .i64 999, .int .i64 1048576, .int .i64 1048576, .int .i64 2, .int .i64 1048576, .int .i64 1048576, .int .i64 0, .int .i64 1048576, .int .i64 1048576, .int .i64 1048576] 3)).alloc (.cells #[.string ⟨#[115, 101, 97, 116, 115]⟩, .string ⟨#[115, 101, 97, 116, 115]⟩, .string ⟨#[115, 101, 97, 116, 115]⟩, .string ⟨#[115, 101, 97, 116, 115]⟩, .string ⟨#[103, 97, 112]⟩, .string ⟨#[114, 97, 100, 105, 117, 115]⟩, .string ⟨#[107, 105, 108, 108, 115]⟩, .string ⟨#[112, 111, 108, 101, 115]⟩, .string ⟨#[112, 111, 108, 101, 115]⟩, .string ⟨#[112, 111, 108, 101, 115]⟩] 9)) := ((below_alloc w _).alloc (by simp) _).alloc (by simp; omega) _
  have fs : w.heap.size + 1 + 1 < (((w.alloc (.cells #[.int .i64 0, .int .i64 (-1048576), .int .i64 (-1048576), .int .i64 0, .int .i64 1, .int .i64 0, .int .i64 0, .int .i64 (-1048576), .int .i64 (-1048576), .int .i64 1] 3)).alloc (.cells #[.int .i64 999, .int .i64 1048576, .int .i64 1048576, .int .i64 2, .int .i64 1048576, .int .i64 1048576, .int .i64 0, .int .i64 1048576, .int .i64 1048576, .int .i64 1048576] 3)).alloc (.cells #[.string ⟨#[115, 101, 97, 116, 115]⟩, .string ⟨#[115, 101, 97, 116, 115]⟩, .string ⟨#[115, 101, 97, 116, 115]⟩, .string ⟨#[115, 101, 97, 116, 115]⟩, .string ⟨#[103, 97, 112]⟩, .string ⟨#[114, 97, 100, 105, 117, 115]⟩, .string ⟨#[107, 105, 108, 108, 115]⟩, .string ⟨#[112, 111, 108, 101, 115]⟩, .string ⟨#[112, 111, 108, 101, 115]⟩, .string ⟨#[112, 111, 108, 101, 115]⟩] 9)).heap.size := by simp
  simp only [World.size_alloc] at f1 f2
  generalize (((w.alloc (.cells #[.int .i64 0, .int .i64 (-1048576), .int .i64 (-1048576), .int .i64 0, .int .i64 1, .int .i64 0, .int .i64 0, .int .i64 (-1048576), .int .i64 (-1048576), .int .i64 1] 3)).alloc (.cells #[.int .i64 999, .int .i64 1048576, .int .i64 1048576, .int .i64 2, .int .i64 1048576, .int .i64 1048576, .int .i64 0, .int .i64 1048576, .int .i64 1048576, .int .i64 1048576] 3)).alloc (.cells #[.string ⟨#[115, 101, 97, 116, 115]⟩, .string ⟨#[115, 101, 97, 116, 115]⟩, .string ⟨#[115, 101, 97, 116, 115]⟩, .string ⟨#[115, 101, 97, 116, 115]⟩, .string ⟨#[103, 97, 112]⟩, .string ⟨#[114, 97, 100, 105, 117, 115]⟩, .string ⟨#[107, 105, 108, 108, 115]⟩, .string ⟨#[112, 111, 108, 101, 115]⟩, .string ⟨#[112, 111, 108, 101, 115]⟩, .string ⟨#[112, 111, 108, 101, 115]⟩] 9)) = W3 at f0 f1 f2 fb fs ⊢
  refine region5_5 _ ?_ 3 e w.heap.size (w.heap.size + 1) 0 2 n (by decide) hez _ (wrapI _ (by omega) (by omega)) (wrapI _ (by omega) (by omega)) (f0.cell 3 _ rfl) (f1.cell 3 _ rfl) (by rw [← hn]; exact edge_cell _ 0 2 e he) _ _ _ _ _ _ _ _ _ _ _ _ _ _ _ _ _ _ _ _ _ _ _ _ _ _ _ _ _ _ _ _ _ _ _ _ _ _ _ _ _ _ _ _ _ _ _ _ _ _ _ _ _ _ _ _ _ _ _ _ _ _ _ _ _ _ _ _ _ _ _ _ _ _ _ _ _ _ _ _ _ _ _ _ _ _ _ _ _ _ _ _ _ _ _ _ _ _ _ _ _ _ _ _ _ _ _ _ _ _ _ _ _ ?_
  · intro c a a' w h; exact absurd h.2 (by first | (intro h2; cases h2.1) | (intro h2; cases h2))
  have g2 := (f2.up (.cells #[.int .i64 0, .int .i64 2, .int .i64 (0 - 1), .int .i64 (2 + 1)] 3)).next (Below.refl _ _).drew
  have gb : Below w.heap.size w (W3.alloc (.cells #[.int .i64 0, .int .i64 2, .int .i64 (0 - 1), .int .i64 (2 + 1)] 3)).drew := (fb.alloc fb.size _).drew
  have gs : w.heap.size + 1 + 1 < (W3.alloc (.cells #[.int .i64 0, .int .i64 2, .int .i64 (0 - 1), .int .i64 (2 + 1)] 3)).drew.heap.size := by
    show _ < (W3.alloc (.cells #[.int .i64 0, .int .i64 2, .int .i64 (0 - 1), .int .i64 (2 + 1)] 3)).heap.size
    simp; omega
  generalize (W3.alloc (.cells #[.int .i64 0, .int .i64 2, .int .i64 (0 - 1), .int .i64 (2 + 1)] 3)).drew = W4 at g2 gb gs ⊢
  clear f0 f1 f2 fb fs hn
  go_wp2_with fail
  have k1 := ((Box.fresh W4 34 #[.int .i64 0, .int .i64 0, .int .i64 0, .int .i64 n]).up (.cells #[.int .i64 0, .int .i64 0, .int .i64 1] 39) |>.up (.cells #[.int .i64 0] 3)).up (.cells #[.slice none 0 0, .int .i64 1, .int .i64 0, .slice (some ⟨W4.heap.size + 1 + 1, 0, none⟩) 1 1, .slice none 0 0] 26)
  have k2 := ((Box.fresh (W4.alloc (.cells #[.int .i64 0, .int .i64 0, .int .i64 0, .int .i64 n] 34)) 39 #[.int .i64 0, .int .i64 0, .int .i64 1]).up (.cells #[.int .i64 0] 3)).up (.cells #[.slice none 0 0, .int .i64 1, .int .i64 0, .slice (some ⟨W4.heap.size + 1 + 1, 0, none⟩) 1 1, .slice none 0 0] 26)
  have k3 := (Box.fresh ((W4.alloc (.cells #[.int .i64 0, .int .i64 0, .int .i64 0, .int .i64 n] 34)).alloc (.cells #[.int .i64 0, .int .i64 0, .int .i64 1] 39)) 3 #[.int .i64 0]).up (.cells #[.slice none 0 0, .int .i64 1, .int .i64 0, .slice (some ⟨W4.heap.size + 1 + 1, 0, none⟩) 1 1, .slice none 0 0] 26)
  have k4 := Box.fresh (((W4.alloc (.cells #[.int .i64 0, .int .i64 0, .int .i64 0, .int .i64 n] 34)).alloc (.cells #[.int .i64 0, .int .i64 0, .int .i64 1] 39)).alloc (.cells #[.int .i64 0] 3)) 26 #[.slice none 0 0, .int .i64 1, .int .i64 0, .slice (some ⟨W4.heap.size + 1 + 1, 0, none⟩) 1 1, .slice none 0 0]
  have k5 := ((g2.up (.cells #[.int .i64 0, .int .i64 0, .int .i64 0, .int .i64 n] 34)).up (.cells #[.int .i64 0, .int .i64 0, .int .i64 1] 39) |>.up (.cells #[.int .i64 0] 3)).up (.cells #[.slice none 0 0, .int .i64 1, .int .i64 0, .slice (some ⟨W4.heap.size + 1 + 1, 0, none⟩) 1 1, .slice none 0 0] 26)
  have kb : Below w.heap.size w ((((W4.alloc (.cells #[.int .i64 0, .int .i64 0, .int .i64 0, .int .i64 n] 34)).alloc (.cells #[.int .i64 0, .int .i64 0, .int .i64 1] 39)).alloc (.cells #[.int .i64 0] 3)).alloc (.cells #[.slice none 0 0, .int .i64 1, .int .i64 0, .slice (some ⟨W4.heap.size + 1 + 1, 0, none⟩) 1 1, .slice none 0 0] 26)) := (((gb.alloc (by omega) _).alloc (by simp; omega) _).alloc (by simp; omega) _).alloc (by simp; omega) _
  have ks : W4.heap.size + 1 + 1 + 1 < ((((W4.alloc (.cells #[.int .i64 0, .int .i64 0, .int .i64 0, .int .i64 n] 34)).alloc (.cells #[.int .i64 0, .int .i64 0, .int .i64 1] 39)).alloc (.cells #[.int .i64 0] 3)).alloc (.cells #[.slice none 0 0, .int .i64 1, .int .i64 0, .slice (some ⟨W4.heap.size + 1 + 1, 0, none⟩) 1 1, .slice none 0 0] 26)).heap.size := by simp
  simp only [World.size_alloc] at k2 k3 k4
  generalize ((((W4.alloc (.cells #[.int .i64 0, .int .i64 0, .int .i64 0, .int .i64 n] 34)).alloc (.cells #[.int .i64 0, .int .i64 0, .int .i64 1] 39)).alloc (.cells #[.int .i64 0] 3)).alloc (.cells #[.slice none 0 0, .int .i64 1, .int .i64 0, .slice (some ⟨W4.heap.size + 1 + 1, 0, none⟩) 1 1, .slice none 0 0] 26)) = W5 at k1 k2 k3 k4 k5 kb ks ⊢
  refine region5_29 _ ?_ 0 0 0 n 0 0 1 _ _ _ W4.heap.size (W4.heap.size + 1) (W4.heap.size + 1 + 1 + 1) w.heap.size w W5 (by omega) (by omega) (by omega) (by omega) kb k1 k2 k4 _ _ _ _ _ _ _ _ _ _ _ _ _ _ _ _ _ _ _ _ _ _ _ _ _ _ _ _ _ _ _ _ _ _ _ _ _ _ _ _ _ _ _ _ _ _ _ _ _ _ _ _ _ _ _ _ _ _ _ _ _ _ _ _ _ _ _ _ _ _ _ _ _ _ _ _ _ _ _ _ _ _ _ _ _ _ _ _ _ _ _ _ _ _ _ _ _ _ _ _ _ _ _ _ _ _ _ _ _ _ _ _ _ _ ?_
  · intro c a a' w h; exact absurd h.2 (by first | (intro h2; cases h2.1) | (intro h2; cases h2))
  intro W6 sb pb hb hsz hkeep hsb hS hpb hP hx
  have hK := hkeep _ _ _ (by omega) k3
  have hN := hkeep _ _ _ (by omega) k5
  have hv : VenAt W6 (some ⟨sb, 0, none⟩) 1 1 (some ⟨W4.heap.size + 1 + 1, 0, none⟩) 1 1 (some ⟨pb, 0, none⟩) 1 1 ⟨[⟨0, 0, 0, n⟩], 1, 0, [0], [⟨0, 0, 1⟩]⟩ :=
    ⟨.inr ⟨_, _, _, rfl, Nat.le_refl _, by decide, hS.cells seatC_len rfl⟩, .inr ⟨_, _, _, rfl, Nat.le_refl _, by decide, hK.cells intC_len rfl⟩, .inr ⟨_, _, _, rfl, Nat.le_refl _, by decide, hP.cells poleC_len rfl⟩⟩
  have hm := fun w' hb => may_any (some ⟨sb, 0, none⟩) (some ⟨W4.heap.size + 1 + 1, 0, none⟩) (some ⟨pb, 0, none⟩) 1 1 1 1 1 1 ⟨[⟨0, 0, 0, n⟩], 1, 0, [0], [⟨0, 0, 1⟩]⟩ w' (hv.next (w' := w') hb)
  have hw := fun w' hb => wrong_any (some ⟨sb, 0, none⟩) (some ⟨W4.heap.size + 1 + 1, 0, none⟩) (some ⟨pb, 0, none⟩) 1 1 1 1 1 1 ⟨[⟨0, 0, 0, n⟩], 1, 0, [0], [⟨0, 0, 1⟩]⟩ w' (hv.next (w' := w') hb)
  rw [HMA.out] at hm
  rw [HWR.out] at hw
  have cN := hN.cell 3 _ rfl
  have lN := hN.lt
  clear k1 k2 k3 k4 k5 kb ks hkeep hS hP hK hN hv g2 gb
  go_wp2_with fail
  refine (told_any _).mono ?_
  rintro e' w3 ⟨rfl, b3⟩
  obtain ⟨c0, c1, c2, c3, c4⟩ := (hx.next b3).five
  have l3 := (hx.next b3).lt
  go_wp2_with fail
  refine (hw _ b3).mono ?_
  rintro e' w4 ⟨rfl, b4⟩
  have b34 := b3.trans (b4.mono b3.size)
  obtain ⟨d0, d1, d2, d3, d4⟩ := (hx.next b34).five
  have l4 := (hx.next b34).lt
  clear c0 c1 c2 c3 c4
  go_wp2_with fail
  refine (hm _ b34).mono ?_
  rintro e' w5 ⟨rfl, b5⟩
  have hB5 : Below w.heap.size w w5 := hb.trans ((b34.trans (b5.mono b34.size)).mono hb.size)
  go_wp2
  go_ret
  exact ⟨rfl, hB5⟩
set_option maxRecDepth 100000 in
set_option maxHeartbeats 4000000 in
theorem edges_4_in (part edge : Int) (e : Nat) (he : e < 4) (hk : (IntKind.u64.wrap part).tmod 10 = 4) (hee : (IntKind.u64.wrap edge).tmod 4 = e) (n : Int) (hn : edgeN 1 1048576 e = n) (he1 : ¬ (1 : Int) < (e : Int))
    (hwr : wrongL ⟨[⟨0, 0, 0, 0⟩], n, 0, [0], [⟨0, 0, 1⟩]⟩ = []) (w : World) :
    Calls Try.prog 5 #[.int .i64 part, .int .i64 edge] w fun e w' => e = .returned (.bool true) ∧ Below w.heap.size w w' := by
  have hez : (e : Int) < 4 := by omega
  have hma : mayB ⟨[⟨0, 0, 0, 0⟩], n, 0, [0], [⟨0, 0, 1⟩]⟩ = true := (mayB_wrong _).mp hwr
  have HWR : Hid (wrongL ⟨[⟨0, 0, 0, 0⟩], n, 0, [0], [⟨0, 0, 1⟩]⟩ = []) := hwr
  have HMA : Hid (mayB ⟨[⟨0, 0, 0, 0⟩], n, 0, [0], [⟨0, 0, 1⟩]⟩ = true) := hma
  clear hwr hma
  go_enter Try.func5, Try.ntmps5
  go_wp2_with fail
  have f0 := ((Box.fresh w 3 #[.int .i64 0, .int .i64 (-1048576), .int .i64 (-1048576), .int .i64 0, .int .i64 1, .int .i64 0, .int .i64 0, .int .i64 (-1048576), .int .i64 (-1048576), .int .i64 1]).up (.cells #[.int .i64 999, .int .i64 1048576, .int .i64 1048576, .int .i64 2, .int .i64 1048576, .int .i64 1048576, .int .i64 0, .int .i64 1048576, .int .i64 1048576, .int .i64 1048576] 3)).up (.cells #[.string ⟨#[115, 101, 97, 116, 115]⟩, .string ⟨#[115, 101, 97, 116, 115]⟩, .string ⟨#[115, 101, 97, 116, 115]⟩, .string ⟨#[115, 101, 97, 116, 115]⟩, .string ⟨#[103, 97, 112]⟩, .string ⟨#[114, 97, 100, 105, 117, 115]⟩, .string ⟨#[107, 105, 108, 108, 115]⟩, .string ⟨#[112, 111, 108, 101, 115]⟩, .string ⟨#[112, 111, 108, 101, 115]⟩, .string ⟨#[112, 111, 108, 101, 115]⟩] 9)
  have f1 := (Box.fresh (w.alloc (.cells #[.int .i64 0, .int .i64 (-1048576), .int .i64 (-1048576), .int .i64 0, .int .i64 1, .int .i64 0, .int .i64 0, .int .i64 (-1048576), .int .i64 (-1048576), .int .i64 1] 3)) 3 #[.int .i64 999, .int .i64 1048576, .int .i64 1048576, .int .i64 2, .int .i64 1048576, .int .i64 1048576, .int .i64 0, .int .i64 1048576, .int .i64 1048576, .int .i64 1048576]).up (.cells #[.string ⟨#[115, 101, 97, 116, 115]⟩, .string ⟨#[115, 101, 97, 116, 115]⟩, .string ⟨#[115, 101, 97, 116, 115]⟩, .string ⟨#[115, 101, 97, 116, 115]⟩, .string ⟨#[103, 97, 112]⟩, .string ⟨#[114, 97, 100, 105, 117, 115]⟩, .string ⟨#[107, 105, 108, 108, 115]⟩, .string ⟨#[112, 111, 108, 101, 115]⟩, .string ⟨#[112, 111, 108, 101, 115]⟩, .string ⟨#[112, 111, 108, 101, 115]⟩] 9)
  have f2 := Box.fresh ((w.alloc (.cells #[.int .i64 0, .int .i64 (-1048576), .int .i64 (-1048576), .int .i64 0, .int .i64 1, .int .i64 0, .int .i64 0, .int .i64 (-1048576), .int .i64 (-1048576), .int .i64 1] 3)).alloc (.cells #[.int .i64 999, .int .i64 1048576, .int .i64 1048576, .int .i64 2, .int .i64 1048576, .int .i64 1048576, .int .i64 0, .int .i64 1048576, .int .i64 1048576, .int .i64 1048576] 3)) 9 #[.string ⟨#[115, 101, 97, 116, 115]⟩, .string ⟨#[115, 101, 97, 116, 115]⟩, .string ⟨#[115, 101, 97, 116, 115]⟩, .string ⟨#[115, 101, 97, 116, 115]⟩, .string ⟨#[103, 97, 112]⟩, .string ⟨#[114, 97, 100, 105, 117, 115]⟩, .string ⟨#[107, 105, 108, 108, 115]⟩, .string ⟨#[112, 111, 108, 101, 115]⟩, .string ⟨#[112, 111, 108, 101, 115]⟩, .string ⟨#[112, 111, 108, 101, 115]⟩]
  have fb : Below w.heap.size w (((w.alloc (.cells #[.int .i64 0, .int .i64 (-1048576), .int .i64 (-1048576), .int .i64 0, .int .i64 1, .int .i64 0, .int .i64 0, .int .i64 (-1048576), .int .i64 (-1048576), .int .i64 1] 3)).alloc (.cells #[.int .i64 999, .int .i64 1048576, .int .i64 1048576, .int .i64 2, .int .i64 1048576, .int .i64 1048576, .int .i64 0, .int .i64 1048576, .int .i64 1048576, .int .i64 1048576] 3)).alloc (.cells #[.string ⟨#[115, 101, 97, 116, 115]⟩, .string ⟨#[115, 101, 97, 116, 115]⟩, .string ⟨#[115, 101, 97, 116, 115]⟩, .string ⟨#[115, 101, 97, 116, 115]⟩, .string ⟨#[103, 97, 112]⟩, .string ⟨#[114, 97, 100, 105, 117, 115]⟩, .string ⟨#[107, 105, 108, 108, 115]⟩, .string ⟨#[112, 111, 108, 101, 115]⟩, .string ⟨#[112, 111, 108, 101, 115]⟩, .string ⟨#[112, 111, 108, 101, 115]⟩] 9)) := ((below_alloc w _).alloc (by simp) _).alloc (by simp; omega) _
  have fs : w.heap.size + 1 + 1 < (((w.alloc (.cells #[.int .i64 0, .int .i64 (-1048576), .int .i64 (-1048576), .int .i64 0, .int .i64 1, .int .i64 0, .int .i64 0, .int .i64 (-1048576), .int .i64 (-1048576), .int .i64 1] 3)).alloc (.cells #[.int .i64 999, .int .i64 1048576, .int .i64 1048576, .int .i64 2, .int .i64 1048576, .int .i64 1048576, .int .i64 0, .int .i64 1048576, .int .i64 1048576, .int .i64 1048576] 3)).alloc (.cells #[.string ⟨#[115, 101, 97, 116, 115]⟩, .string ⟨#[115, 101, 97, 116, 115]⟩, .string ⟨#[115, 101, 97, 116, 115]⟩, .string ⟨#[115, 101, 97, 116, 115]⟩, .string ⟨#[103, 97, 112]⟩, .string ⟨#[114, 97, 100, 105, 117, 115]⟩, .string ⟨#[107, 105, 108, 108, 115]⟩, .string ⟨#[112, 111, 108, 101, 115]⟩, .string ⟨#[112, 111, 108, 101, 115]⟩, .string ⟨#[112, 111, 108, 101, 115]⟩] 9)).heap.size := by simp
  simp only [World.size_alloc] at f1 f2
  generalize (((w.alloc (.cells #[.int .i64 0, .int .i64 (-1048576), .int .i64 (-1048576), .int .i64 0, .int .i64 1, .int .i64 0, .int .i64 0, .int .i64 (-1048576), .int .i64 (-1048576), .int .i64 1] 3)).alloc (.cells #[.int .i64 999, .int .i64 1048576, .int .i64 1048576, .int .i64 2, .int .i64 1048576, .int .i64 1048576, .int .i64 0, .int .i64 1048576, .int .i64 1048576, .int .i64 1048576] 3)).alloc (.cells #[.string ⟨#[115, 101, 97, 116, 115]⟩, .string ⟨#[115, 101, 97, 116, 115]⟩, .string ⟨#[115, 101, 97, 116, 115]⟩, .string ⟨#[115, 101, 97, 116, 115]⟩, .string ⟨#[103, 97, 112]⟩, .string ⟨#[114, 97, 100, 105, 117, 115]⟩, .string ⟨#[107, 105, 108, 108, 115]⟩, .string ⟨#[112, 111, 108, 101, 115]⟩, .string ⟨#[112, 111, 108, 101, 115]⟩, .string ⟨#[112, 111, 108, 101, 115]⟩] 9)) = W3 at f0 f1 f2 fb fs ⊢
  refine region5_5 _ ?_ 4 e w.heap.size (w.heap.size + 1) 1 1048576 n (by decide) hez _ (wrapI _ (by omega) (by omega)) (wrapI _ (by omega) (by omega)) (f0.cell 4 _ rfl) (f1.cell 4 _ rfl) (by rw [← hn]; exact edge_cell _ 1 1048576 e he) _ _ _ _ _ _ _ _ _ _ _ _ _ _ _ _ _ _ _ _ _ _ _ _ _ _ _ _ _ _ _ _ _ _ _ _ _ _ _ _ _ _ _ _ _ _ _ _ _ _ _ _ _ _ _ _ _ _ _ _ _ _ _ _ _ _ _ _ _ _ _ _ _ _ _ _ _ _ _ _ _ _ _ _ _ _ _ _ _ _ _ _ _ _ _ _ _ _ _ _ _ _ _ _ _ _ _ _ _ _ _ _ _ ?_
  · intro c a a' w h; exact absurd h.2 (by first | (intro h2; cases h2.1) | (intro h2; cases h2))
  have g2 := (f2.up (.cells #[.int .i64 1, .int .i64 1048576, .int .i64 (1 - 1), .int .i64 (1048576 + 1)] 3)).next (Below.refl _ _).drew
  have gb : Below w.heap.size w (W3.alloc (.cells #[.int .i64 1, .int .i64 1048576, .int .i64 (1 - 1), .int .i64 (1048576 + 1)] 3)).drew := (fb.alloc fb.size _).drew
  have gs : w.heap.size + 1 + 1 < (W3.alloc (.cells #[.int .i64 1, .int .i64 1048576, .int .i64 (1 - 1), .int .i64 (1048576 + 1)] 3)).drew.heap.size := by
    show _ < (W3.alloc (.cells #[.int .i64 1, .int .i64 1048576, .int .i64 (1 - 1), .int .i64 (1048576 + 1)] 3)).heap.size
    simp; omega
  generalize (W3.alloc (.cells #[.int .i64 1, .int .i64 1048576, .int .i64 (1 - 1), .int .i64 (1048576 + 1)] 3)).drew = W4 at g2 gb gs ⊢
  clear f0 f1 f2 fb fs hn
  go_wp2_with fail
  have k1 := ((Box.fresh W4 34 #[.int .i64 0, .int .i64 0, .int .i64 0, .int .i64 0]).up (.cells #[.int .i64 0, .int .i64 0, .int .i64 1] 39) |>.up (.cells #[.int .i64 0] 3)).up (.cells #[.slice none 0 0, .int .i64 n, .int .i64 0, .slice (some ⟨W4.heap.size + 1 + 1, 0, none⟩) 1 1, .slice none 0 0] 26)
  have k2 := ((Box.fresh (W4.alloc (.cells #[.int .i64 0, .int .i64 0, .int .i64 0, .int .i64 0] 34)) 39 #[.int .i64 0, .int .i64 0, .int .i64 1]).up (.cells #[.int .i64 0] 3)).up (.cells #[.slice none 0 0, .int .i64 n, .int .i64 0, .slice (some ⟨W4.heap.size + 1 + 1, 0, none⟩) 1 1, .slice none 0 0] 26)
  have k3 := (Box.fresh ((W4.alloc (.cells #[.int .i64 0, .int .i64 0, .int .i64 0, .int .i64 0] 34)).alloc (.cells #[.int .i64 0, .int .i64 0, .int .i64 1] 39)) 3 #[.int .i64 0]).up (.cells #[.slice none 0 0, .int .i64 n, .int .i64 0, .slice (some ⟨W4.heap.size + 1 + 1, 0, none⟩) 1 1, .slice none 0 0] 26)
  have k4 := Box.fresh (((W4.alloc (.cells #[.int .i64 0, .int .i64 0, .int .i64 0, .int .i64 0] 34)).alloc (.cells #[.int .i64 0, .int .i64 0, .int .i64 1] 39)).alloc (.cells #[.int .i64 0] 3)) 26 #[.slice none 0 0, .int .i64 n, .int .i64 0, .slice (some ⟨W4.heap.size + 1 + 1, 0, none⟩) 1 1, .slice none 0 0]
  have k5 := ((g2.up (.cells #[.int .i64 0, .int .i64 0, .int .i64 0, .int .i64 0] 34)).up (.cells #[.int .i64 0, .int .i64 0, .int .i64 1] 39) |>.up (.cells #[.int .i64 0] 3)).up (.cells #[.slice none 0 0, .int .i64 n, .int .i64 0, .slice (some ⟨W4.heap.size + 1 + 1, 0, none⟩) 1 1, .slice none 0 0] 26)
  have kb : Below w.heap.size w ((((W4.alloc (.cells #[.int .i64 0, .int .i64 0, .int .i64 0, .int .i64 0] 34)).alloc (.cells #[.int .i64 0, .int .i64 0, .int .i64 1] 39)).alloc (.cells #[.int .i64 0] 3)).alloc (.cells #[.slice none 0 0, .int .i64 n, .int .i64 0, .slice (some ⟨W4.heap.size + 1 + 1, 0, none⟩) 1 1, .slice none 0 0] 26)) := (((gb.alloc (by omega) _).alloc (by simp; omega) _).alloc (by simp; omega) _).alloc (by simp; omega) _
  have ks : W4.heap.size + 1 + 1 + 1 < ((((W4.alloc (.cells #[.int .i64 0, .int .i64 0, .int .i64 0, .int .i64 0] 34)).alloc (.cells #[.int .i64 0, .int .i64 0, .int .i64 1] 39)).alloc (.cells #[.int .i64 0] 3)).alloc (.cells #[.slice none 0 0, .int .i64 n, .int .i64 0, .slice (some ⟨W4.heap.size + 1 + 1, 0, none⟩) 1 1, .slice none 0 0] 26)).heap.size := by simp
  simp only [World.size_alloc] at k2 k3 k4
  generalize ((((W4.alloc (.cells #[.int .i64 0, .int .i64 0, .int .i64 0, .int .i64 0] 34)).alloc (.cells #[.int .i64 0, .int .i64 0, .int .i64 1] 39)).alloc (.cells #[.int .i64 0] 3)).alloc (.cells #[.slice none 0 0, .int .i64 n, .int .i64 0, .slice (some ⟨W4.heap.size + 1 + 1, 0, none⟩) 1 1, .slice none 0 0] 26)) = W5 at k1 k2 k3 k4 k5 kb ks ⊢
  refine region5_29 _ ?_ 0 0 0 0 0 0 1 _ _ _ W4.heap.size (W4.heap.size + 1) (W4.heap.size + 1 + 1 + 1) w.heap.size w W5 (by omega) (by omega) (by omega) (by omega) kb k1 k2 k4 _ _ _ _ _ _ _ _ _ _ _ _ _ _ _ _ _ _ _ _ _ _ _ _ _ _ _ _ _ _ _ _ _ _ _ _ _ _ _ _ _ _ _ _ _ _ _ _ _ _ _ _ _ _ _ _ _ _ _ _ _ _ _ _ _ _ _ _ _ _ _ _ _ _ _ _ _ _ _ _ _ _ _ _ _ _ _ _ _ _ _ _ _ _ _ _ _ _ _ _ _ _ _ _ _ _ _ _ _ _ _ _ _ _ ?_
  · intro c a a' w h; exact absurd h.2 (by first | (intro h2; cases h2.1) | (intro h2; cases h2))
  intro W6 sb pb hb hsz hkeep hsb hS hpb hP hx
  have hK := hkeep _ _ _ (by omega) k3
  have hN := hkeep _ _ _ (by omega) k5
  have hv : VenAt W6 (some ⟨sb, 0, none⟩) 1 1 (some ⟨W4.heap.size + 1 + 1, 0, none⟩) 1 1 (some ⟨pb, 0, none⟩) 1 1 ⟨[⟨0, 0, 0, 0⟩], n, 0, [0], [⟨0, 0, 1⟩]⟩ :=
    ⟨.inr ⟨_, _, _, rfl, Nat.le_refl _, by decide, hS.cells seatC_len rfl⟩, .inr ⟨_, _, _, rfl, Nat.le_refl _, by decide, hK.cells intC_len rfl⟩, .inr ⟨_, _, _, rfl, Nat.le_refl _, by decide, hP.cells poleC_len rfl⟩⟩
  have hm := fun w' hb => may_any (some ⟨sb, 0, none⟩) (some ⟨W4.heap.size + 1 + 1, 0, none⟩) (some ⟨pb, 0, none⟩) 1 1 1 1 1 1 ⟨[⟨0, 0, 0, 0⟩], n, 0, [0], [⟨0, 0, 1⟩]⟩ w' (hv.next (w' := w') hb)
  have hw := fun w' hb => wrong_any (some ⟨sb, 0, none⟩) (some ⟨W4.heap.size + 1 + 1, 0, none⟩) (some ⟨pb, 0, none⟩) 1 1 1 1 1 1 ⟨[⟨0, 0, 0, 0⟩], n, 0, [0], [⟨0, 0, 1⟩]⟩ w' (hv.next (w' := w') hb)
  rw [HMA.out] at hm
  rw [HWR.out] at hw
  have cN := hN.cell 4 _ rfl
  have lN := hN.lt
  clear k1 k2 k3 k4 k5 kb ks hkeep hS hP hK hN hv g2 gb
  go_wp2_with fail
  refine (told_any _).mono ?_
  rintro e' w3 ⟨rfl, b3⟩
  obtain ⟨c0, c1, c2, c3, c4⟩ := (hx.next b3).five
  have l3 := (hx.next b3).lt
  go_wp2_with fail
  refine (hw _ b3).mono ?_
  rintro e' w4 ⟨rfl, b4⟩
  have b34 := b3.trans (b4.mono b3.size)
  obtain ⟨d0, d1, d2, d3, d4⟩ := (hx.next b34).five
  have l4 := (hx.next b34).lt
  clear c0 c1 c2 c3 c4
  go_wp2_with fail
  refine (hm _ b34).mono ?_
  rintro e' w5 ⟨rfl, b5⟩
  have hB5 : Below w.heap.size w w5 := hb.trans ((b34.trans (b5.mono b34.size)).mono hb.size)
  go_wp2
  go_ret
  exact ⟨rfl, hB5⟩
set_option maxRecDepth 100000 in
set_option maxHeartbeats 4000000 in
theorem edges_4_out (part edge : Int) (e : Nat) (he : e < 4) (hk : (IntKind.u64.wrap part).tmod 10 = 4) (hee : (IntKind.u64.wrap edge).tmod 4 = e) (n : Int) (hn : edgeN 1 1048576 e = n) (he1 : (1 : Int) < (e : Int))
    (hwr : wrongL ⟨[⟨0, 0, 0, 0⟩], n, 0, [0], [⟨0, 0, 1⟩]⟩ = [103, 97, 112]) (w : World) :
    Calls Try.prog 5 #[.int .i64 part, .int .i64 edge] w fun e w' => e = .returned (.bool true) ∧ Below w.heap.size w w' := by
  have hez : (e : Int) < 4 := by omega
  have hma : mayB ⟨[⟨0, 0, 0, 0⟩], n, 0, [0], [⟨0, 0, 1⟩]⟩ = false := may_no _ (by rw [hwr]; simp)
  have HWR : Hid (wrongL ⟨[⟨0, 0, 0, 0⟩], n, 0, [0], [⟨0, 0, 1⟩]⟩ = [103, 97, 112]) := hwr
  have HMA : Hid (mayB ⟨[⟨0, 0, 0, 0⟩], n, 0, [0], [⟨0, 0, 1⟩]⟩ = false) := hma
  clear hwr hma
  go_enter Try.func5, Try.ntmps5
  go_wp2_with fail
  have f0 := ((Box.fresh w 3 #[.int .i64 0, .int .i64 (-1048576), .int .i64 (-1048576), .int .i64 0, .int .i64 1, .int .i64 0, .int .i64 0, .int .i64 (-1048576), .int .i64 (-1048576), .int .i64 1]).up (.cells #[.int .i64 999, .int .i64 1048576, .int .i64 1048576, .int .i64 2, .int .i64 1048576, .int .i64 1048576, .int .i64 0, .int .i64 1048576, .int .i64 1048576, .int .i64 1048576] 3)).up (.cells #[.string ⟨#[115, 101, 97, 116, 115]⟩, .string ⟨#[115, 101, 97, 116, 115]⟩, .string ⟨#[115, 101, 97, 116, 115]⟩, .string ⟨#[115, 101, 97, 116, 115]⟩, .string ⟨#[103, 97, 112]⟩, .string ⟨#[114, 97, 100, 105, 117, 115]⟩, .string ⟨#[107, 105, 108, 108, 115]⟩, .string ⟨#[112, 111, 108, 101, 115]⟩, .string ⟨#[112, 111, 108, 101, 115]⟩, .string ⟨#[112, 111, 108, 101, 115]⟩] 9)
  have f1 := (Box.fresh (w.alloc (.cells #[.int .i64 0, .int .i64 (-1048576), .int .i64 (-1048576), .int .i64 0, .int .i64 1, .int .i64 0, .int .i64 0, .int .i64 (-1048576), .int .i64 (-1048576), .int .i64 1] 3)) 3 #[.int .i64 999, .int .i64 1048576, .int .i64 1048576, .int .i64 2, .int .i64 1048576, .int .i64 1048576, .int .i64 0, .int .i64 1048576, .int .i64 1048576, .int .i64 1048576]).up (.cells #[.string ⟨#[115, 101, 97, 116, 115]⟩, .string ⟨#[115, 101, 97, 116, 115]⟩, .string ⟨#[115, 101, 97, 116, 115]⟩, .string ⟨#[115, 101, 97, 116, 115]⟩, .string ⟨#[103, 97, 112]⟩, .string ⟨#[114, 97, 100, 105, 117, 115]⟩, .string ⟨#[107, 105, 108, 108, 115]⟩, .string ⟨#[112, 111, 108, 101, 115]⟩, .string ⟨#[112, 111, 108, 101, 115]⟩, .string ⟨#[112, 111, 108, 101, 115]⟩] 9)
  have f2 := Box.fresh ((w.alloc (.cells #[.int .i64 0, .int .i64 (-1048576), .int .i64 (-1048576), .int .i64 0, .int .i64 1, .int .i64 0, .int .i64 0, .int .i64 (-1048576), .int .i64 (-1048576), .int .i64 1] 3)).alloc (.cells #[.int .i64 999, .int .i64 1048576, .int .i64 1048576, .int .i64 2, .int .i64 1048576, .int .i64 1048576, .int .i64 0, .int .i64 1048576, .int .i64 1048576, .int .i64 1048576] 3)) 9 #[.string ⟨#[115, 101, 97, 116, 115]⟩, .string ⟨#[115, 101, 97, 116, 115]⟩, .string ⟨#[115, 101, 97, 116, 115]⟩, .string ⟨#[115, 101, 97, 116, 115]⟩, .string ⟨#[103, 97, 112]⟩, .string ⟨#[114, 97, 100, 105, 117, 115]⟩, .string ⟨#[107, 105, 108, 108, 115]⟩, .string ⟨#[112, 111, 108, 101, 115]⟩, .string ⟨#[112, 111, 108, 101, 115]⟩, .string ⟨#[112, 111, 108, 101, 115]⟩]
  have fb : Below w.heap.size w (((w.alloc (.cells #[.int .i64 0, .int .i64 (-1048576), .int .i64 (-1048576), .int .i64 0, .int .i64 1, .int .i64 0, .int .i64 0, .int .i64 (-1048576), .int .i64 (-1048576), .int .i64 1] 3)).alloc (.cells #[.int .i64 999, .int .i64 1048576, .int .i64 1048576, .int .i64 2, .int .i64 1048576, .int .i64 1048576, .int .i64 0, .int .i64 1048576, .int .i64 1048576, .int .i64 1048576] 3)).alloc (.cells #[.string ⟨#[115, 101, 97, 116, 115]⟩, .string ⟨#[115, 101, 97, 116, 115]⟩, .string ⟨#[115, 101, 97, 116, 115]⟩, .string ⟨#[115, 101, 97, 116, 115]⟩, .string ⟨#[103, 97, 112]⟩, .string ⟨#[114, 97, 100, 105, 117, 115]⟩, .string ⟨#[107, 105, 108, 108, 115]⟩, .string ⟨#[112, 111, 108, 101, 115]⟩, .string ⟨#[112, 111, 108, 101, 115]⟩, .string ⟨#[112, 111, 108, 101, 115]⟩] 9)) := ((below_alloc w _).alloc (by simp) _).alloc (by simp; omega) _
  have fs : w.heap.size + 1 + 1 < (((w.alloc (.cells #[.int .i64 0, .int .i64 (-1048576), .int .i64 (-1048576), .int .i64 0, .int .i64 1, .int .i64 0, .int .i64 0, .int .i64 (-1048576), .int .i64 (-1048576), .int .i64 1] 3)).alloc (.cells #[.int .i64 999, .int .i64 1048576, .int .i64 1048576, .int .i64 2, .int .i64 1048576, .int .i64 1048576, .int .i64 0, .int .i64 1048576, .int .i64 1048576, .int .i64 1048576] 3)).alloc (.cells #[.string ⟨#[115, 101, 97, 116, 115]⟩, .string ⟨#[115, 101, 97, 116, 115]⟩, .string ⟨#[115, 101, 97, 116, 115]⟩, .string ⟨#[115, 101, 97, 116, 115]⟩, .string ⟨#[103, 97, 112]⟩, .string ⟨#[114, 97, 100, 105, 117, 115]⟩, .string ⟨#[107, 105, 108, 108, 115]⟩, .string ⟨#[112, 111, 108, 101, 115]⟩, .string ⟨#[112, 111, 108, 101, 115]⟩, .string ⟨#[112, 111, 108, 101, 115]⟩] 9)).heap.size := by simp
  simp only [World.size_alloc] at f1 f2
  generalize (((w.alloc (.cells #[.int .i64 0, .int .i64 (-1048576), .int .i64 (-1048576), .int .i64 0, .int .i64 1, .int .i64 0, .int .i64 0, .int .i64 (-1048576), .int .i64 (-1048576), .int .i64 1] 3)).alloc (.cells #[.int .i64 999, .int .i64 1048576, .int .i64 1048576, .int .i64 2, .int .i64 1048576, .int .i64 1048576, .int .i64 0, .int .i64 1048576, .int .i64 1048576, .int .i64 1048576] 3)).alloc (.cells #[.string ⟨#[115, 101, 97, 116, 115]⟩, .string ⟨#[115, 101, 97, 116, 115]⟩, .string ⟨#[115, 101, 97, 116, 115]⟩, .string ⟨#[115, 101, 97, 116, 115]⟩, .string ⟨#[103, 97, 112]⟩, .string ⟨#[114, 97, 100, 105, 117, 115]⟩, .string ⟨#[107, 105, 108, 108, 115]⟩, .string ⟨#[112, 111, 108, 101, 115]⟩, .string ⟨#[112, 111, 108, 101, 115]⟩, .string ⟨#[112, 111, 108, 101, 115]⟩] 9)) = W3 at f0 f1 f2 fb fs ⊢
  refine region5_5 _ ?_ 4 e w.heap.size (w.heap.size + 1) 1 1048576 n (by decide) hez _ (wrapI _ (by omega) (by omega)) (wrapI _ (by omega) (by omega)) (f0.cell 4 _ rfl) (f1.cell 4 _ rfl) (by rw [← hn]; exact edge_cell _ 1 1048576 e he) _ _ _ _ _ _ _ _ _ _ _ _ _ _ _ _ _ _ _ _ _ _ _ _ _ _ _ _ _ _ _ _ _ _ _ _ _ _ _ _ _ _ _ _ _ _ _ _ _ _ _ _ _ _ _ _ _ _ _ _ _ _ _ _ _ _ _ _ _ _ _ _ _ _ _ _ _ _ _ _ _ _ _ _ _ _ _ _ _ _ _ _ _ _ _ _ _ _ _ _ _ _ _ _ _ _ _ _ _ _ _ _ _ ?_
  · intro c a a' w h; exact absurd h.2 (by first | (intro h2; cases h2.1) | (intro h2; cases h2))
  have g2 := (f2.up (.cells #[.int .i64 1, .int .i64 1048576, .int .i64 (1 - 1), .int .i64 (1048576 + 1)] 3)).next (Below.refl _ _).drew
  have gb : Below w.heap.size w (W3.alloc (.cells #[.int .i64 1, .int .i64 1048576, .int .i64 (1 - 1), .int .i64 (1048576 + 1)] 3)).drew := (fb.alloc fb.size _).drew
  have gs : w.heap.size + 1 + 1 < (W3.alloc (.cells #[.int .i64 1, .int .i64 1048576, .int .i64 (1 - 1), .int .i64 (1048576 + 1)] 3)).drew.heap.size := by
    show _ < (W3.alloc (.cells #[.int .i64 1, .int .i64 1048576, .int .i64 (1 - 1), .int .i64 (1048576 + 1)] 3)).heap.size
    simp; omega
  generalize (W3.alloc (.cells #[.int .i64 1, .int .i64 1048576, .int .i64 (1 - 1), .int .i64 (1048576 + 1)] 3)).drew = W4 at g2 gb gs ⊢
  clear f0 f1 f2 fb fs hn
  go_wp2_with fail
  have k1 := ((Box.fresh W4 34 #[.int .i64 0, .int .i64 0, .int .i64 0, .int .i64 0]).up (.cells #[.int .i64 0, .int .i64 0, .int .i64 1] 39) |>.up (.cells #[.int .i64 0] 3)).up (.cells #[.slice none 0 0, .int .i64 n, .int .i64 0, .slice (some ⟨W4.heap.size + 1 + 1, 0, none⟩) 1 1, .slice none 0 0] 26)
  have k2 := ((Box.fresh (W4.alloc (.cells #[.int .i64 0, .int .i64 0, .int .i64 0, .int .i64 0] 34)) 39 #[.int .i64 0, .int .i64 0, .int .i64 1]).up (.cells #[.int .i64 0] 3)).up (.cells #[.slice none 0 0, .int .i64 n, .int .i64 0, .slice (some ⟨W4.heap.size + 1 + 1, 0, none⟩) 1 1, .slice none 0 0] 26)
  have k3 := (Box.fresh ((W4.alloc (.cells #[.int .i64 0, .int .i64 0, .int .i64 0, .int .i64 0] 34)).alloc (.cells #[.int .i64 0, .int .i64 0, .int .i64 1] 39)) 3 #[.int .i64 0]).up (.cells #[.slice none 0 0, .int .i64 n, .int .i64 0, .slice (some ⟨W4.heap.size + 1 + 1, 0, none⟩) 1 1, .slice none 0 0] 26)
  have k4 := Box.fresh (((W4.alloc (.cells #[.int .i64 0, .int .i64 0, .int .i64 0, .int .i64 0] 34)).alloc (.cells #[.int .i64 0, .int .i64 0, .int .i64 1] 39)).alloc (.cells #[.int .i64 0] 3)) 26 #[.slice none 0 0, .int .i64 n, .int .i64 0, .slice (some ⟨W4.heap.size + 1 + 1, 0, none⟩) 1 1, .slice none 0 0]
  have k5 := ((g2.up (.cells #[.int .i64 0, .int .i64 0, .int .i64 0, .int .i64 0] 34)).up (.cells #[.int .i64 0, .int .i64 0, .int .i64 1] 39) |>.up (.cells #[.int .i64 0] 3)).up (.cells #[.slice none 0 0, .int .i64 n, .int .i64 0, .slice (some ⟨W4.heap.size + 1 + 1, 0, none⟩) 1 1, .slice none 0 0] 26)
  have kb : Below w.heap.size w ((((W4.alloc (.cells #[.int .i64 0, .int .i64 0, .int .i64 0, .int .i64 0] 34)).alloc (.cells #[.int .i64 0, .int .i64 0, .int .i64 1] 39)).alloc (.cells #[.int .i64 0] 3)).alloc (.cells #[.slice none 0 0, .int .i64 n, .int .i64 0, .slice (some ⟨W4.heap.size + 1 + 1, 0, none⟩) 1 1, .slice none 0 0] 26)) := (((gb.alloc (by omega) _).alloc (by simp; omega) _).alloc (by simp; omega) _).alloc (by simp; omega) _
  have ks : W4.heap.size + 1 + 1 + 1 < ((((W4.alloc (.cells #[.int .i64 0, .int .i64 0, .int .i64 0, .int .i64 0] 34)).alloc (.cells #[.int .i64 0, .int .i64 0, .int .i64 1] 39)).alloc (.cells #[.int .i64 0] 3)).alloc (.cells #[.slice none 0 0, .int .i64 n, .int .i64 0, .slice (some ⟨W4.heap.size + 1 + 1, 0, none⟩) 1 1, .slice none 0 0] 26)).heap.size := by simp
  simp only [World.size_alloc] at k2 k3 k4
  generalize ((((W4.alloc (.cells #[.int .i64 0, .int .i64 0, .int .i64 0, .int .i64 0] 34)).alloc (.cells #[.int .i64 0, .int .i64 0, .int .i64 1] 39)).alloc (.cells #[.int .i64 0] 3)).alloc (.cells #[.slice none 0 0, .int .i64 n, .int .i64 0, .slice (some ⟨W4.heap.size + 1 + 1, 0, none⟩) 1 1, .slice none 0 0] 26)) = W5 at k1 k2 k3 k4 k5 kb ks ⊢
  refine region5_29 _ ?_ 0 0 0 0 0 0 1 _ _ _ W4.heap.size (W4.heap.size + 1) (W4.heap.size + 1 + 1 + 1) w.heap.size w W5 (by omega) (by omega) (by omega) (by omega) kb k1 k2 k4 _ _ _ _ _ _ _ _ _ _ _ _ _ _ _ _ _ _ _ _ _ _ _ _ _ _ _ _ _ _ _ _ _ _ _ _ _ _ _ _ _ _ _ _ _ _ _ _ _ _ _ _ _ _ _ _ _ _ _ _ _ _ _ _ _ _ _ _ _ _ _ _ _ _ _ _ _ _ _ _ _ _ _ _ _ _ _ _ _ _ _ _ _ _ _ _ _ _ _ _ _ _ _ _ _ _ _ _ _ _ _ _ _ _ ?_
  · intro c a a' w h; exact absurd h.2 (by first | (intro h2; cases h2.1) | (intro h2; cases h2))
  intro W6 sb pb hb hsz hkeep hsb hS hpb hP hx
  have hK := hkeep _ _ _ (by omega) k3
  have hN := hkeep _ _ _ (by omega) k5
  have hv : VenAt W6 (some ⟨sb, 0, none⟩) 1 1 (some ⟨W4.heap.size + 1 + 1, 0, none⟩) 1 1 (some ⟨pb, 0, none⟩) 1 1 ⟨[⟨0, 0, 0, 0⟩], n, 0, [0], [⟨0, 0, 1⟩]⟩ :=
    ⟨.inr ⟨_, _, _, rfl, Nat.le_refl _, by decide, hS.cells seatC_len rfl⟩, .inr ⟨_, _, _, rfl, Nat.le_refl _, by decide, hK.cells intC_len rfl⟩, .inr ⟨_, _, _, rfl, Nat.le_refl _, by decide, hP.cells poleC_len rfl⟩⟩
  have hm := fun w' hb => may_any (some ⟨sb, 0, none⟩) (some ⟨W4.heap.size + 1 + 1, 0, none⟩) (some ⟨pb, 0, none⟩) 1 1 1 1 1 1 ⟨[⟨0, 0, 0, 0⟩], n, 0, [0], [⟨0, 0, 1⟩]⟩ w' (hv.next (w' := w') hb)
  have hw := fun w' hb => wrong_any (some ⟨sb, 0, none⟩) (some ⟨W4.heap.size + 1 + 1, 0, none⟩) (some ⟨pb, 0, none⟩) 1 1 1 1 1 1 ⟨[⟨0, 0, 0, 0⟩], n, 0, [0], [⟨0, 0, 1⟩]⟩ w' (hv.next (w' := w') hb)
  rw [HMA.out] at hm
  rw [HWR.out] at hw
  have cN := hN.cell 4 _ rfl
  have lN := hN.lt
  clear k1 k2 k3 k4 k5 kb ks hkeep hS hP hK hN hv g2 gb
  go_wp2_with fail
  refine (told_any _).mono ?_
  rintro e' w3 ⟨rfl, b3⟩
  obtain ⟨c0, c1, c2, c3, c4⟩ := (hx.next b3).five
  have l3 := (hx.next b3).lt
  go_wp2_with fail
  refine (hw _ b3).mono ?_
  rintro e' w4 ⟨rfl, b4⟩
  have b34 := b3.trans (b4.mono b3.size)
  obtain ⟨d0, d1, d2, d3, d4⟩ := (hx.next b34).five
  have l4 := (hx.next b34).lt
  clear c0 c1 c2 c3 c4
  go_wp2_with fail
  refine (hm _ b34).mono ?_
  rintro e' w5 ⟨rfl, b5⟩
  have hB5 : Below w.heap.size w w5 := hb.trans ((b34.trans (b5.mono b34.size)).mono hb.size)
  go_wp2
  go_ret
  exact ⟨rfl, hB5⟩
set_option maxRecDepth 100000 in
set_option maxHeartbeats 4000000 in
theorem edges_5_in (part edge : Int) (e : Nat) (he : e < 4) (hk : (IntKind.u64.wrap part).tmod 10 = 5) (hee : (IntKind.u64.wrap edge).tmod 4 = e) (n : Int) (hn : edgeN 0 1048576 e = n) (he1 : ¬ (1 : Int) < (e : Int))
    (hwr : wrongL ⟨[⟨0, 0, 0, 0⟩], 1, n, [0], [⟨0, 0, 1⟩]⟩ = []) (w : World) :
    Calls Try.prog 5 #[.int .i64 part, .int .i64 edge] w fun e w' => e = .returned (.bool true) ∧ Below w.heap.size w w' := by
  have hez : (e : Int) < 4 := by omega
  have hma : mayB ⟨[⟨0, 0, 0, 0⟩], 1, n, [0], [⟨0, 0, 1⟩]⟩ = true := (mayB_wrong _).mp hwr
  have HWR : Hid (wrongL ⟨[⟨0, 0, 0, 0⟩], 1, n, [0], [⟨0, 0, 1⟩]⟩ = []) := hwr
  have HMA : Hid (mayB ⟨[⟨0, 0, 0, 0⟩], 1, n, [0], [⟨0, 0, 1⟩]⟩ = true) := hma
  clear hwr hma
  go_enter Try.func5, Try.ntmps5
  go_wp2_with fail
  have f0 := ((Box.fresh w 3 #[.int .i64 0, .int .i64 (-1048576), .int .i64 (-1048576), .int .i64 0, .int .i64 1, .int .i64 0, .int .i64 0, .int .i64 (-1048576), .int .i64 (-1048576), .int .i64 1]).up (.cells #[.int .i64 999, .int .i64 1048576, .int .i64 1048576, .int .i64 2, .int .i64 1048576, .int .i64 1048576, .int .i64 0, .int .i64 1048576, .int .i64 1048576, .int .i64 1048576] 3)).up (.cells #[.string ⟨#[115, 101, 97, 116, 115]⟩, .string ⟨#[115, 101, 97, 116, 115]⟩, .string ⟨#[115, 101, 97, 116, 115]⟩, .string ⟨#[115, 101, 97, 116, 115]⟩, .string ⟨#[103, 97, 112]⟩, .string ⟨#[114, 97, 100, 105, 117, 115]⟩, .string ⟨#[107, 105, 108, 108, 115]⟩, .string ⟨#[112, 111, 108, 101, 115]⟩, .string ⟨#[112, 111, 108, 101, 115]⟩, .string ⟨#[112, 111, 108, 101, 115]⟩] 9)
  have f1 := (Box.fresh (w.alloc (.cells #[.int .i64 0, .int .i64 (-1048576), .int .i64 (-1048576), .int .i64 0, .int .i64 1, .int .i64 0, .int .i64 0, .int .i64 (-1048576), .int .i64 (-1048576), .int .i64 1] 3)) 3 #[.int .i64 999, .int .i64 1048576, .int .i64 1048576, .int .i64 2, .int .i64 1048576, .int .i64 1048576, .int .i64 0, .int .i64 1048576, .int .i64 1048576, .int .i64 1048576]).up (.cells #[.string ⟨#[115, 101, 97, 116, 115]⟩, .string ⟨#[115, 101, 97, 116, 115]⟩, .string ⟨#[115, 101, 97, 116, 115]⟩, .string ⟨#[115, 101, 97, 116, 115]⟩, .string ⟨#[103, 97, 112]⟩, .string ⟨#[114, 97, 100, 105, 117, 115]⟩, .string ⟨#[107, 105, 108, 108, 115]⟩, .string ⟨#[112, 111, 108, 101, 115]⟩, .string ⟨#[112, 111, 108, 101, 115]⟩, .string ⟨#[112, 111, 108, 101, 115]⟩] 9)
  have f2 := Box.fresh ((w.alloc (.cells #[.int .i64 0, .int .i64 (-1048576), .int .i64 (-1048576), .int .i64 0, .int .i64 1, .int .i64 0, .int .i64 0, .int .i64 (-1048576), .int .i64 (-1048576), .int .i64 1] 3)).alloc (.cells #[.int .i64 999, .int .i64 1048576, .int .i64 1048576, .int .i64 2, .int .i64 1048576, .int .i64 1048576, .int .i64 0, .int .i64 1048576, .int .i64 1048576, .int .i64 1048576] 3)) 9 #[.string ⟨#[115, 101, 97, 116, 115]⟩, .string ⟨#[115, 101, 97, 116, 115]⟩, .string ⟨#[115, 101, 97, 116, 115]⟩, .string ⟨#[115, 101, 97, 116, 115]⟩, .string ⟨#[103, 97, 112]⟩, .string ⟨#[114, 97, 100, 105, 117, 115]⟩, .string ⟨#[107, 105, 108, 108, 115]⟩, .string ⟨#[112, 111, 108, 101, 115]⟩, .string ⟨#[112, 111, 108, 101, 115]⟩, .string ⟨#[112, 111, 108, 101, 115]⟩]
  have fb : Below w.heap.size w (((w.alloc (.cells #[.int .i64 0, .int .i64 (-1048576), .int .i64 (-1048576), .int .i64 0, .int .i64 1, .int .i64 0, .int .i64 0, .int .i64 (-1048576), .int .i64 (-1048576), .int .i64 1] 3)).alloc (.cells #[.int .i64 999, .int .i64 1048576, .int .i64 1048576, .int .i64 2, .int .i64 1048576, .int .i64 1048576, .int .i64 0, .int .i64 1048576, .int .i64 1048576, .int .i64 1048576] 3)).alloc (.cells #[.string ⟨#[115, 101, 97, 116, 115]⟩, .string ⟨#[115, 101, 97, 116, 115]⟩, .string ⟨#[115, 101, 97, 116, 115]⟩, .string ⟨#[115, 101, 97, 116, 115]⟩, .string ⟨#[103, 97, 112]⟩, .string ⟨#[114, 97, 100, 105, 117, 115]⟩, .string ⟨#[107, 105, 108, 108, 115]⟩, .string ⟨#[112, 111, 108, 101, 115]⟩, .string ⟨#[112, 111, 108, 101, 115]⟩, .string ⟨#[112, 111, 108, 101, 115]⟩] 9)) := ((below_alloc w _).alloc (by simp) _).alloc (by simp; omega) _
  have fs : w.heap.size + 1 + 1 < (((w.alloc (.cells #[.int .i64 0, .int .i64 (-1048576), .int .i64 (-1048576), .int .i64 0, .int .i64 1, .int .i64 0, .int .i64 0, .int .i64 (-1048576), .int .i64 (-1048576), .int .i64 1] 3)).alloc (.cells #[.int .i64 999, .int .i64 1048576, .int .i64 1048576, .int .i64 2, .int .i64 1048576, .int .i64 1048576, .int .i64 0, .int .i64 1048576, .int .i64 1048576, .int .i64 1048576] 3)).alloc (.cells #[.string ⟨#[115, 101, 97, 116, 115]⟩, .string ⟨#[115, 101, 97, 116, 115]⟩, .string ⟨#[115, 101, 97, 116, 115]⟩, .string ⟨#[115, 101, 97, 116, 115]⟩, .string ⟨#[103, 97, 112]⟩, .string ⟨#[114, 97, 100, 105, 117, 115]⟩, .string ⟨#[107, 105, 108, 108, 115]⟩, .string ⟨#[112, 111, 108, 101, 115]⟩, .string ⟨#[112, 111, 108, 101, 115]⟩, .string ⟨#[112, 111, 108, 101, 115]⟩] 9)).heap.size := by simp
  simp only [World.size_alloc] at f1 f2
  generalize (((w.alloc (.cells #[.int .i64 0, .int .i64 (-1048576), .int .i64 (-1048576), .int .i64 0, .int .i64 1, .int .i64 0, .int .i64 0, .int .i64 (-1048576), .int .i64 (-1048576), .int .i64 1] 3)).alloc (.cells #[.int .i64 999, .int .i64 1048576, .int .i64 1048576, .int .i64 2, .int .i64 1048576, .int .i64 1048576, .int .i64 0, .int .i64 1048576, .int .i64 1048576, .int .i64 1048576] 3)).alloc (.cells #[.string ⟨#[115, 101, 97, 116, 115]⟩, .string ⟨#[115, 101, 97, 116, 115]⟩, .string ⟨#[115, 101, 97, 116, 115]⟩, .string ⟨#[115, 101, 97, 116, 115]⟩, .string ⟨#[103, 97, 112]⟩, .string ⟨#[114, 97, 100, 105, 117, 115]⟩, .string ⟨#[107, 105, 108, 108, 115]⟩, .string ⟨#[112, 111, 108, 101, 115]⟩, .string ⟨#[112, 111, 108, 101, 115]⟩, .string ⟨#[112, 111, 108, 101, 115]⟩] 9)) = W3 at f0 f1 f2 fb fs ⊢
  refine region5_5 _ ?_ 5 e w.heap.size (w.heap.size + 1) 0 1048576 n (by decide) hez _ (wrapI _ (by omega) (by omega)) (wrapI _ (by omega) (by omega)) (f0.cell 5 _ rfl) (f1.cell 5 _ rfl) (by rw [← hn]; exact edge_cell _ 0 1048576 e he) _ _ _ _ _ _ _ _ _ _ _ _ _ _ _ _ _ _ _ _ _ _ _ _ _ _ _ _ _ _ _ _ _ _ _ _ _ _ _ _ _ _ _ _ _ _ _ _ _ _ _ _ _ _ _ _ _ _ _ _ _ _ _ _ _ _ _ _ _ _ _ _ _ _ _ _ _ _ _ _ _ _ _ _ _ _ _ _ _ _ _ _ _ _ _ _ _ _ _ _ _ _ _ _ _ _ _ _ _ _ _ _ _ ?_
  · intro c a a' w h; exact absurd h.2 (by first | (intro h2; cases h2.1) | (intro h2; cases h2))
  have g2 := (f2.up (.cells #[.int .i64 0, .int .i64 1048576, .int .i64 (0 - 1), .int .i64 (1048576 + 1)] 3)).next (Below.refl _ _).drew
  have gb : Below w.heap.size w (W3.alloc (.cells #[.int .i64 0, .int .i64 1048576, .int .i64 (0 - 1), .int .i64 (1048576 + 1)] 3)).drew := (fb.alloc fb.size _).drew
  have gs : w.heap.size + 1 + 1 < (W3.alloc (.cells #[.int .i64 0, .int .i64 1048576, .int .i64 (0 - 1), .int .i64 (1048576 + 1)] 3)).drew.heap.size := by
    show _ < (W3.alloc (.cells #[.int .i64 0, .int .i64 1048576, .int .i64 (0 - 1), .int .i64 (1048576 + 1)] 3)).heap.size
    simp; omega
  generalize (W3.alloc (.cells #[.int .i64 0, .int .i64 1048576, .int .i64 (0 - 1), .int .i64 (1048576 + 1)] 3)).drew = W4 at g2 gb gs ⊢
  clear f0 f1 f2 fb fs hn
  go_wp2_with fail
  have k1 := ((Box.fresh W4 34 #[.int .i64 0, .int .i64 0, .int .i64 0, .int .i64 0]).up (.cells #[.int .i64 0, .int .i64 0, .int .i64 1] 39) |>.up (.cells #[.int .i64 0] 3)).up (.cells #[.slice none 0 0, .int .i64 1, .int .i64 n, .slice (some ⟨W4.heap.size + 1 + 1, 0, none⟩) 1 1, .slice none 0 0] 26)
  have k2 := ((Box.fresh (W4.alloc (.cells #[.int .i64 0, .int .i64 0, .int .i64 0, .int .i64 0] 34)) 39 #[.int .i64 0, .int .i64 0, .int .i64 1]).up (.cells #[.int .i64 0] 3)).up (.cells #[.slice none 0 0, .int .i64 1, .int .i64 n, .slice (some ⟨W4.heap.size + 1 + 1, 0, none⟩) 1 1, .slice none 0 0] 26)
  have k3 := (Box.fresh ((W4.alloc (.cells #[.int .i64 0, .int .i64 0, .int .i64 0, .int .i64 0] 34)).alloc (.cells #[.int .i64 0, .int .i64 0, .int .i64 1] 39)) 3 #[.int .i64 0]).up (.cells #[.slice none 0 0, .int .i64 1, .int .i64 n, .slice (some ⟨W4.heap.size + 1 + 1, 0, none⟩) 1 1, .slice none 0 0] 26)
  have k4 := Box.fresh (((W4.alloc (.cells #[.int .i64 0, .int .i64 0, .int .i64 0, .int .i64 0] 34)).alloc (.cells #[.int .i64 0, .int .i64 0, .int .i64 1] 39)).alloc (.cells #[.int .i64 0] 3)) 26 #[.slice none 0 0, .int .i64 1, .int .i64 n, .slice (some ⟨W4.heap.size + 1 + 1, 0, none⟩) 1 1, .slice none 0 0]
  have k5 := ((g2.up (.cells #[.int .i64 0, .int .i64 0, .int .i64 0, .int .i64 0] 34)).up (.cells #[.int .i64 0, .int .i64 0, .int .i64 1] 39) |>.up (.cells #[.int .i64 0] 3)).up (.cells #[.slice none 0 0, .int .i64 1, .int .i64 n, .slice (some ⟨W4.heap.size + 1 + 1, 0, none⟩) 1 1, .slice none 0 0] 26)
  have kb : Below w.heap.size w ((((W4.alloc (.cells #[.int .i64 0, .int .i64 0, .int .i64 0, .int .i64 0] 34)).alloc (.cells #[.int .i64 0, .int .i64 0, .int .i64 1] 39)).alloc (.cells #[.int .i64 0] 3)).alloc (.cells #[.slice none 0 0, .int .i64 1, .int .i64 n, .slice (some ⟨W4.heap.size + 1 + 1, 0, none⟩) 1 1, .slice none 0 0] 26)) := (((gb.alloc (by omega) _).alloc (by simp; omega) _).alloc (by simp; omega) _).alloc (by simp; omega) _
  have ks : W4.heap.size + 1 + 1 + 1 < ((((W4.alloc (.cells #[.int .i64 0, .int .i64 0, .int .i64 0, .int .i64 0] 34)).alloc (.cells #[.int .i64 0, .int .i64 0, .int .i64 1] 39)).alloc (.cells #[.int .i64 0] 3)).alloc (.cells #[.slice none 0 0, .int .i64 1, .int .i64 n, .slice (some ⟨W4.heap.size + 1 + 1, 0, none⟩) 1 1, .slice none 0 0] 26)).heap.size := by simp
  simp only [World.size_alloc] at k2 k3 k4
  generalize ((((W4.alloc (.cells #[.int .i64 0, .int .i64 0, .int .i64 0, .int .i64 0] 34)).alloc (.cells #[.int .i64 0, .int .i64 0, .int .i64 1] 39)).alloc (.cells #[.int .i64 0] 3)).alloc (.cells #[.slice none 0 0, .int .i64 1, .int .i64 n, .slice (some ⟨W4.heap.size + 1 + 1, 0, none⟩) 1 1, .slice none 0 0] 26)) = W5 at k1 k2 k3 k4 k5 kb ks ⊢
  refine region5_29 _ ?_ 0 0 0 0 0 0 1 _ _ _ W4.heap.size (W4.heap.size + 1) (W4.heap.size + 1 + 1 + 1) w.heap.size w W5 (by omega) (by omega) (by omega) (by omega) kb k1 k2 k4 _ _ _ _ _ _ _ _ _ _ _ _ _ _ _ _ _ _ _ _ _ _ _ _ _ _ _ _ _ _ _ _ _ _ _ _ _ _ _ _ _ _ _ _ _ _ _ _ _ _ _ _ _ _ _ _ _ _ _ _ _ _ _ _ _ _ _ _ _ _ _ _ _ _ _ _ _ _ _ _ _ _ _ _ _ _ _ _ _ _ _ _ _ _ _ _ _ _ _ _ _ _ _ _ _ _ _ _ _ _ _ _ _ _ ?_
  · intro c a a' w h; exact absurd h.2 (by first | (intro h2; cases h2.1) | (intro h2; cases h2))
  intro W6 sb pb hb hsz hkeep hsb hS hpb hP hx
  have hK := hkeep _ _ _ (by omega) k3
  have hN := hkeep _ _ _ (by omega) k5
  have hv : VenAt W6 (some ⟨sb, 0, none⟩) 1 1 (some ⟨W4.heap.size + 1 + 1, 0, none⟩) 1 1 (some ⟨pb, 0, none⟩) 1 1 ⟨[⟨0, 0, 0, 0⟩], 1, n, [0], [⟨0, 0, 1⟩]⟩ :=
    ⟨.inr ⟨_, _, _, rfl, Nat.le_refl _, by decide, hS.cells seatC_len rfl⟩, .inr ⟨_, _, _, rfl, Nat.le_refl _, by decide, hK.cells intC_len rfl⟩, .inr ⟨_, _, _, rfl, Nat.le_refl _, by decide, hP.cells poleC_len rfl⟩⟩
  have hm := fun w' hb => may_any (some ⟨sb, 0, none⟩) (some ⟨W4.heap.size + 1 + 1, 0, none⟩) (some ⟨pb, 0, none⟩) 1 1 1 1 1 1 ⟨[⟨0, 0, 0, 0⟩], 1, n, [0], [⟨0, 0, 1⟩]⟩ w' (hv.next (w' := w') hb)
  have hw := fun w' hb => wrong_any (some ⟨sb, 0, none⟩) (some ⟨W4.heap.size + 1 + 1, 0, none⟩) (some ⟨pb, 0, none⟩) 1 1 1 1 1 1 ⟨[⟨0, 0, 0, 0⟩], 1, n, [0], [⟨0, 0, 1⟩]⟩ w' (hv.next (w' := w') hb)
  rw [HMA.out] at hm
  rw [HWR.out] at hw
  have cN := hN.cell 5 _ rfl
  have lN := hN.lt
  clear k1 k2 k3 k4 k5 kb ks hkeep hS hP hK hN hv g2 gb
  go_wp2_with fail
  refine (told_any _).mono ?_
  rintro e' w3 ⟨rfl, b3⟩
  obtain ⟨c0, c1, c2, c3, c4⟩ := (hx.next b3).five
  have l3 := (hx.next b3).lt
  go_wp2_with fail
  refine (hw _ b3).mono ?_
  rintro e' w4 ⟨rfl, b4⟩
  have b34 := b3.trans (b4.mono b3.size)
  obtain ⟨d0, d1, d2, d3, d4⟩ := (hx.next b34).five
  have l4 := (hx.next b34).lt
  clear c0 c1 c2 c3 c4
  go_wp2_with fail
  refine (hm _ b34).mono ?_
  rintro e' w5 ⟨rfl, b5⟩
  have hB5 : Below w.heap.size w w5 := hb.trans ((b34.trans (b5.mono b34.size)).mono hb.size)
  go_wp2
  go_ret
  exact ⟨rfl, hB5⟩
set_option maxRecDepth 100000 in
set_option maxHeartbeats 4000000 in
theorem edges_5_out (part edge : Int) (e : Nat) (he : e < 4) (hk : (IntKind.u64.wrap part).tmod 10 = 5) (hee : (IntKind.u64.wrap edge).tmod 4 = e) (n : Int) (hn : edgeN 0 1048576 e = n) (he1 : (1 : Int) < (e : Int))
    (hwr : wrongL ⟨[⟨0, 0, 0, 0⟩], 1, n, [0], [⟨0, 0, 1⟩]⟩ = [114, 97, 100, 105, 117, 115]) (w : World) :
    Calls Try.prog 5 #[.int .i64 part, .int .i64 edge] w fun e w' => e = .returned (.bool true) ∧ Below w.heap.size w w' := by
  have hez : (e : Int) < 4 := by omega
  have hma : mayB ⟨[⟨0, 0, 0, 0⟩], 1, n, [0], [⟨0, 0, 1⟩]⟩ = false := may_no _ (by rw [hwr]; simp)
  have HWR : Hid (wrongL ⟨[⟨0, 0, 0, 0⟩], 1, n, [0], [⟨0, 0, 1⟩]⟩ = [114, 97, 100, 105, 117, 115]) := hwr
  have HMA : Hid (mayB ⟨[⟨0, 0, 0, 0⟩], 1, n, [0], [⟨0, 0, 1⟩]⟩ = false) := hma
  clear hwr hma
  go_enter Try.func5, Try.ntmps5
  go_wp2_with fail
  have f0 := ((Box.fresh w 3 #[.int .i64 0, .int .i64 (-1048576), .int .i64 (-1048576), .int .i64 0, .int .i64 1, .int .i64 0, .int .i64 0, .int .i64 (-1048576), .int .i64 (-1048576), .int .i64 1]).up (.cells #[.int .i64 999, .int .i64 1048576, .int .i64 1048576, .int .i64 2, .int .i64 1048576, .int .i64 1048576, .int .i64 0, .int .i64 1048576, .int .i64 1048576, .int .i64 1048576] 3)).up (.cells #[.string ⟨#[115, 101, 97, 116, 115]⟩, .string ⟨#[115, 101, 97, 116, 115]⟩, .string ⟨#[115, 101, 97, 116, 115]⟩, .string ⟨#[115, 101, 97, 116, 115]⟩, .string ⟨#[103, 97, 112]⟩, .string ⟨#[114, 97, 100, 105, 117, 115]⟩, .string ⟨#[107, 105, 108, 108, 115]⟩, .string ⟨#[112, 111, 108, 101, 115]⟩, .string ⟨#[112, 111, 108, 101, 115]⟩, .string ⟨#[112, 111, 108, 101, 115]⟩] 9)
  have f1 := (Box.fresh (w.alloc (.cells #[.int .i64 0, .int .i64 (-1048576), .int .i64 (-1048576), .int .i64 0, .int .i64 1, .int .i64 0, .int .i64 0, .int .i64 (-1048576), .int .i64 (-1048576), .int .i64 1] 3)) 3 #[.int .i64 999, .int .i64 1048576, .int .i64 1048576, .int .i64 2, .int .i64 1048576, .int .i64 1048576, .int .i64 0, .int .i64 1048576, .int .i64 1048576, .int .i64 1048576]).up (.cells #[.string ⟨#[115, 101, 97, 116, 115]⟩, .string ⟨#[115, 101, 97, 116, 115]⟩, .string ⟨#[115, 101, 97, 116, 115]⟩, .string ⟨#[115, 101, 97, 116, 115]⟩, .string ⟨#[103, 97, 112]⟩, .string ⟨#[114, 97, 100, 105, 117, 115]⟩, .string ⟨#[107, 105, 108, 108, 115]⟩, .string ⟨#[112, 111, 108, 101, 115]⟩, .string ⟨#[112, 111, 108, 101, 115]⟩, .string ⟨#[112, 111, 108, 101, 115]⟩] 9)
  have f2 := Box.fresh ((w.alloc (.cells #[.int .i64 0, .int .i64 (-1048576), .int .i64 (-1048576), .int .i64 0, .int .i64 1, .int .i64 0, .int .i64 0, .int .i64 (-1048576), .int .i64 (-1048576), .int .i64 1] 3)).alloc (.cells #[.int .i64 999, .int .i64 1048576, .int .i64 1048576, .int .i64 2, .int .i64 1048576, .int .i64 1048576, .int .i64 0, .int .i64 1048576, .int .i64 1048576, .int .i64 1048576] 3)) 9 #[.string ⟨#[115, 101, 97, 116, 115]⟩, .string ⟨#[115, 101, 97, 116, 115]⟩, .string ⟨#[115, 101, 97, 116, 115]⟩, .string ⟨#[115, 101, 97, 116, 115]⟩, .string ⟨#[103, 97, 112]⟩, .string ⟨#[114, 97, 100, 105, 117, 115]⟩, .string ⟨#[107, 105, 108, 108, 115]⟩, .string ⟨#[112, 111, 108, 101, 115]⟩, .string ⟨#[112, 111, 108, 101, 115]⟩, .string ⟨#[112, 111, 108, 101, 115]⟩]
  have fb : Below w.heap.size w (((w.alloc (.cells #[.int .i64 0, .int .i64 (-1048576), .int .i64 (-1048576), .int .i64 0, .int .i64 1, .int .i64 0, .int .i64 0, .int .i64 (-1048576), .int .i64 (-1048576), .int .i64 1] 3)).alloc (.cells #[.int .i64 999, .int .i64 1048576, .int .i64 1048576, .int .i64 2, .int .i64 1048576, .int .i64 1048576, .int .i64 0, .int .i64 1048576, .int .i64 1048576, .int .i64 1048576] 3)).alloc (.cells #[.string ⟨#[115, 101, 97, 116, 115]⟩, .string ⟨#[115, 101, 97, 116, 115]⟩, .string ⟨#[115, 101, 97, 116, 115]⟩, .string ⟨#[115, 101, 97, 116, 115]⟩, .string ⟨#[103, 97, 112]⟩, .string ⟨#[114, 97, 100, 105, 117, 115]⟩, .string ⟨#[107, 105, 108, 108, 115]⟩, .string ⟨#[112, 111, 108, 101, 115]⟩, .string ⟨#[112, 111, 108, 101, 115]⟩, .string ⟨#[112, 111, 108, 101, 115]⟩] 9)) := ((below_alloc w _).alloc (by simp) _).alloc (by simp; omega) _
  have fs : w.heap.size + 1 + 1 < (((w.alloc (.cells #[.int .i64 0, .int .i64 (-1048576), .int .i64 (-1048576), .int .i64 0, .int .i64 1, .int .i64 0, .int .i64 0, .int .i64 (-1048576), .int .i64 (-1048576), .int .i64 1] 3)).alloc (.cells #[.int .i64 999, .int .i64 1048576, .int .i64 1048576, .int .i64 2, .int .i64 1048576, .int .i64 1048576, .int .i64 0, .int .i64 1048576, .int .i64 1048576, .int .i64 1048576] 3)).alloc (.cells #[.string ⟨#[115, 101, 97, 116, 115]⟩, .string ⟨#[115, 101, 97, 116, 115]⟩, .string ⟨#[115, 101, 97, 116, 115]⟩, .string ⟨#[115, 101, 97, 116, 115]⟩, .string ⟨#[103, 97, 112]⟩, .string ⟨#[114, 97, 100, 105, 117, 115]⟩, .string ⟨#[107, 105, 108, 108, 115]⟩, .string ⟨#[112, 111, 108, 101, 115]⟩, .string ⟨#[112, 111, 108, 101, 115]⟩, .string ⟨#[112, 111, 108, 101, 115]⟩] 9)).heap.size := by simp
  simp only [World.size_alloc] at f1 f2
  generalize (((w.alloc (.cells #[.int .i64 0, .int .i64 (-1048576), .int .i64 (-1048576), .int .i64 0, .int .i64 1, .int .i64 0, .int .i64 0, .int .i64 (-1048576), .int .i64 (-1048576), .int .i64 1] 3)).alloc (.cells #[.int .i64 999, .int .i64 1048576, .int .i64 1048576, .int .i64 2, .int .i64 1048576, .int .i64 1048576, .int .i64 0, .int .i64 1048576, .int .i64 1048576, .int .i64 1048576] 3)).alloc (.cells #[.string ⟨#[115, 101, 97, 116, 115]⟩, .string ⟨#[115, 101, 97, 116, 115]⟩, .string ⟨#[115, 101, 97, 116, 115]⟩, .string ⟨#[115, 101, 97, 116, 115]⟩, .string ⟨#[103, 97, 112]⟩, .string ⟨#[114, 97, 100, 105, 117, 115]⟩, .string ⟨#[107, 105, 108, 108, 115]⟩, .string ⟨#[112, 111, 108, 101, 115]⟩, .string ⟨#[112, 111, 108, 101, 115]⟩, .string ⟨#[112, 111, 108, 101, 115]⟩] 9)) = W3 at f0 f1 f2 fb fs ⊢
  refine region5_5 _ ?_ 5 e w.heap.size (w.heap.size + 1) 0 1048576 n (by decide) hez _ (wrapI _ (by omega) (by omega)) (wrapI _ (by omega) (by omega)) (f0.cell 5 _ rfl) (f1.cell 5 _ rfl) (by rw [← hn]; exact edge_cell _ 0 1048576 e he) _ _ _ _ _ _ _ _ _ _ _ _ _ _ _ _ _ _ _ _ _ _ _ _ _ _ _ _ _ _ _ _ _ _ _ _ _ _ _ _ _ _ _ _ _ _ _ _ _ _ _ _ _ _ _ _ _ _ _ _ _ _ _ _ _ _ _ _ _ _ _ _ _ _ _ _ _ _ _ _ _ _ _ _ _ _ _ _ _ _ _ _ _ _ _ _ _ _ _ _ _ _ _ _ _ _ _ _ _ _ _ _ _ ?_
  · intro c a a' w h; exact absurd h.2 (by first | (intro h2; cases h2.1) | (intro h2; cases h2))
  have g2 := (f2.up (.cells #[.int .i64 0, .int .i64 1048576, .int .i64 (0 - 1), .int .i64 (1048576 + 1)] 3)).next (Below.refl _ _).drew
  have gb : Below w.heap.size w (W3.alloc (.cells #[.int .i64 0, .int .i64 1048576, .int .i64 (0 - 1), .int .i64 (1048576 + 1)] 3)).drew := (fb.alloc fb.size _).drew
  have gs : w.heap.size + 1 + 1 < (W3.alloc (.cells #[.int .i64 0, .int .i64 1048576, .int .i64 (0 - 1), .int .i64 (1048576 + 1)] 3)).drew.heap.size := by
    show _ < (W3.alloc (.cells #[.int .i64 0, .int .i64 1048576, .int .i64 (0 - 1), .int .i64 (1048576 + 1)] 3)).heap.size
    simp; omega
  generalize (W3.alloc (.cells #[.int .i64 0, .int .i64 1048576, .int .i64 (0 - 1), .int .i64 (1048576 + 1)] 3)).drew = W4 at g2 gb gs ⊢
  clear f0 f1 f2 fb fs hn
  go_wp2_with fail
  have k1 := ((Box.fresh W4 34 #[.int .i64 0, .int .i64 0, .int .i64 0, .int .i64 0]).up (.cells #[.int .i64 0, .int .i64 0, .int .i64 1] 39) |>.up (.cells #[.int .i64 0] 3)).up (.cells #[.slice none 0 0, .int .i64 1, .int .i64 n, .slice (some ⟨W4.heap.size + 1 + 1, 0, none⟩) 1 1, .slice none 0 0] 26)
  have k2 := ((Box.fresh (W4.alloc (.cells #[.int .i64 0, .int .i64 0, .int .i64 0, .int .i64 0] 34)) 39 #[.int .i64 0, .int .i64 0, .int .i64 1]).up (.cells #[.int .i64 0] 3)).up (.cells #[.slice none 0 0, .int .i64 1, .int .i64 n, .slice (some ⟨W4.heap.size + 1 + 1, 0, none⟩) 1 1, .slice none 0 0] 26)
  have k3 := (Box.fresh ((W4.alloc (.cells #[.int .i64 0, .int .i64 0, .int .i64 0, .int .i64 0] 34)).alloc (.cells #[.int .i64 0, .int .i64 0, .int .i64 1] 39)) 3 #[.int .i64 0]).up (.cells #[.slice none 0 0, .int .i64 1, .int .i64 n, .slice (some ⟨W4.heap.size + 1 + 1, 0, none⟩) 1 1, .slice none 0 0] 26)
  have k4 := Box.fresh (((W4.alloc (.cells #[.int .i64 0, .int .i64 0, .int .i64 0, .int .i64 0] 34)).alloc (.cells #[.int .i64 0, .int .i64 0, .int .i64 1] 39)).alloc (.cells #[.int .i64 0] 3)) 26 #[.slice none 0 0, .int .i64 1, .int .i64 n, .slice (some ⟨W4.heap.size + 1 + 1, 0, none⟩) 1 1, .slice none 0 0]
  have k5 := ((g2.up (.cells #[.int .i64 0, .int .i64 0, .int .i64 0, .int .i64 0] 34)).up (.cells #[.int .i64 0, .int .i64 0, .int .i64 1] 39) |>.up (.cells #[.int .i64 0] 3)).up (.cells #[.slice none 0 0, .int .i64 1, .int .i64 n, .slice (some ⟨W4.heap.size + 1 + 1, 0, none⟩) 1 1, .slice none 0 0] 26)
  have kb : Below w.heap.size w ((((W4.alloc (.cells #[.int .i64 0, .int .i64 0, .int .i64 0, .int .i64 0] 34)).alloc (.cells #[.int .i64 0, .int .i64 0, .int .i64 1] 39)).alloc (.cells #[.int .i64 0] 3)).alloc (.cells #[.slice none 0 0, .int .i64 1, .int .i64 n, .slice (some ⟨W4.heap.size + 1 + 1, 0, none⟩) 1 1, .slice none 0 0] 26)) := (((gb.alloc (by omega) _).alloc (by simp; omega) _).alloc (by simp; omega) _).alloc (by simp; omega) _
  have ks : W4.heap.size + 1 + 1 + 1 < ((((W4.alloc (.cells #[.int .i64 0, .int .i64 0, .int .i64 0, .int .i64 0] 34)).alloc (.cells #[.int .i64 0, .int .i64 0, .int .i64 1] 39)).alloc (.cells #[.int .i64 0] 3)).alloc (.cells #[.slice none 0 0, .int .i64 1, .int .i64 n, .slice (some ⟨W4.heap.size + 1 + 1, 0, none⟩) 1 1, .slice none 0 0] 26)).heap.size := by simp
  simp only [World.size_alloc] at k2 k3 k4
  generalize ((((W4.alloc (.cells #[.int .i64 0, .int .i64 0, .int .i64 0, .int .i64 0] 34)).alloc (.cells #[.int .i64 0, .int .i64 0, .int .i64 1] 39)).alloc (.cells #[.int .i64 0] 3)).alloc (.cells #[.slice none 0 0, .int .i64 1, .int .i64 n, .slice (some ⟨W4.heap.size + 1 + 1, 0, none⟩) 1 1, .slice none 0 0] 26)) = W5 at k1 k2 k3 k4 k5 kb ks ⊢
  refine region5_29 _ ?_ 0 0 0 0 0 0 1 _ _ _ W4.heap.size (W4.heap.size + 1) (W4.heap.size + 1 + 1 + 1) w.heap.size w W5 (by omega) (by omega) (by omega) (by omega) kb k1 k2 k4 _ _ _ _ _ _ _ _ _ _ _ _ _ _ _ _ _ _ _ _ _ _ _ _ _ _ _ _ _ _ _ _ _ _ _ _ _ _ _ _ _ _ _ _ _ _ _ _ _ _ _ _ _ _ _ _ _ _ _ _ _ _ _ _ _ _ _ _ _ _ _ _ _ _ _ _ _ _ _ _ _ _ _ _ _ _ _ _ _ _ _ _ _ _ _ _ _ _ _ _ _ _ _ _ _ _ _ _ _ _ _ _ _ _ ?_
  · intro c a a' w h; exact absurd h.2 (by first | (intro h2; cases h2.1) | (intro h2; cases h2))
  intro W6 sb pb hb hsz hkeep hsb hS hpb hP hx
  have hK := hkeep _ _ _ (by omega) k3
  have hN := hkeep _ _ _ (by omega) k5
  have hv : VenAt W6 (some ⟨sb, 0, none⟩) 1 1 (some ⟨W4.heap.size + 1 + 1, 0, none⟩) 1 1 (some ⟨pb, 0, none⟩) 1 1 ⟨[⟨0, 0, 0, 0⟩], 1, n, [0], [⟨0, 0, 1⟩]⟩ :=
    ⟨.inr ⟨_, _, _, rfl, Nat.le_refl _, by decide, hS.cells seatC_len rfl⟩, .inr ⟨_, _, _, rfl, Nat.le_refl _, by decide, hK.cells intC_len rfl⟩, .inr ⟨_, _, _, rfl, Nat.le_refl _, by decide, hP.cells poleC_len rfl⟩⟩
  have hm := fun w' hb => may_any (some ⟨sb, 0, none⟩) (some ⟨W4.heap.size + 1 + 1, 0, none⟩) (some ⟨pb, 0, none⟩) 1 1 1 1 1 1 ⟨[⟨0, 0, 0, 0⟩], 1, n, [0], [⟨0, 0, 1⟩]⟩ w' (hv.next (w' := w') hb)
  have hw := fun w' hb => wrong_any (some ⟨sb, 0, none⟩) (some ⟨W4.heap.size + 1 + 1, 0, none⟩) (some ⟨pb, 0, none⟩) 1 1 1 1 1 1 ⟨[⟨0, 0, 0, 0⟩], 1, n, [0], [⟨0, 0, 1⟩]⟩ w' (hv.next (w' := w') hb)
  rw [HMA.out] at hm
  rw [HWR.out] at hw
  have cN := hN.cell 5 _ rfl
  have lN := hN.lt
  clear k1 k2 k3 k4 k5 kb ks hkeep hS hP hK hN hv g2 gb
  go_wp2_with fail
  refine (told_any _).mono ?_
  rintro e' w3 ⟨rfl, b3⟩
  obtain ⟨c0, c1, c2, c3, c4⟩ := (hx.next b3).five
  have l3 := (hx.next b3).lt
  go_wp2_with fail
  refine (hw _ b3).mono ?_
  rintro e' w4 ⟨rfl, b4⟩
  have b34 := b3.trans (b4.mono b3.size)
  obtain ⟨d0, d1, d2, d3, d4⟩ := (hx.next b34).five
  have l4 := (hx.next b34).lt
  clear c0 c1 c2 c3 c4
  go_wp2_with fail
  refine (hm _ b34).mono ?_
  rintro e' w5 ⟨rfl, b5⟩
  have hB5 : Below w.heap.size w w5 := hb.trans ((b34.trans (b5.mono b34.size)).mono hb.size)
  go_wp2
  go_ret
  exact ⟨rfl, hB5⟩
end Go.Proofs.Ytoaapngfbidllaa
