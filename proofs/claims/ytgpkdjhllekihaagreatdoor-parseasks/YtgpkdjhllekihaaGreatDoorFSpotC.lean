/- fault.Spot by its contract, over chains of faults. -/
import Derived.Test.YtgpkdjhllekihaaGreatDoorFCodeC
import Derived.Test.YtgpkdjhllekihaaGreatDoorFNew
namespace Go.Proofs.YtgpkdjhllekihaaGreatDoor.Flt
set_option linter.unusedVariables false
set_option maxRecDepth 100000
open Go.RowKit Go.Shelf

attribute [local go_sem] Oper.semAt_some

/-- The outermost place that is one. -/
def spotOf : List (Int × Int × Int) → Int × Int
 | [] => (0, 0)
 | x :: r => if placedB x.2.1 x.2.2 = true then x.2 else spotOf r
theorem spotOf_append_none : ∀ (a b : List (Int × Int × Int)), (∀ x ∈ a, placedB x.2.1 x.2.2 = false) → spotOf (a ++ b) = spotOf b
 | [], _, _ => rfl
 | x :: a, b, h => by
  simp only [List.cons_append, spotOf]
  rw [if_neg (by rw [h x (by simp)]; simp)]
  exact spotOf_append_none a b (fun y hy => h y (by simp [hy]))

set_option maxRecDepth 100000 in
set_option maxHeartbeats 2000000 in
theorem Spot_in (n : Nat) (hn : 3 ≤ n) (v : Value) (ks : List (Int × Int × Int)) (w : World) (hg : Et w) (hc : Chain w v ks) :
  CallsIn Fence.wide n Tryz.prog 11 #[v] w fun e W' => e = .returned (.agg #[.int .i64 (spotOf ks).1, .int .i64 (spotOf ks).2]) ∧ Below w.heap.size w W' := by
 have h1 : 1 ≤ n := by omega
 have h2 : 1 ≤ n - 1 - 1 := by omega
 have hlt := hg.pos
 obtain ⟨xs, hL, hmap⟩ := hc
 have HM : Hid (xs.map (fun x => x.1.2) = ks) := hmap
 clear hmap
 have hvi := hL.iface
 refine callsIn_of_wp_marks Tryz.func11 rfl trivial ?_ rfl
 simp only [Tryz.ntmps11, List.size_toArray, List.length_cons, List.length_nil, Nat.reduceAdd, Nat.reduceSub, Array.replicate_succ, Array.replicate_zero, List.push_toArray, List.append_toArray, List.nil_append, List.cons_append]
 gi_wp2_with (refine ⟨trivial, ?_⟩; gi_at_call 22; refine (faults_in (n - 1) v hvi _).mono ?_; rintro e w' ⟨rfl, rfl⟩)
 have hs0 : (w.alloc (.cells #[.int .i64 0, .int .i64 0] 27)).cell? ⟨w.heap.size, 0, none⟩ = some (.int .i64 0) := by simp
 have hs1 : (w.alloc (.cells #[.int .i64 0, .int .i64 0] 27)).cell? ⟨w.heap.size, 1, none⟩ = some (.int .i64 0) := by simp
 have hf0 : (w.alloc (.cells #[.int .i64 0, .int .i64 0] 27)).frozen? ⟨w.heap.size, 0, none⟩ = false := by simp
 have hf1 : (w.alloc (.cells #[.int .i64 0, .int .i64 0] 27)).frozen? ⟨w.heap.size, 1, none⟩ = false := by simp
 have hb := cell_new (w.alloc (.cells #[.int .i64 0, .int .i64 0] 27)) v 35
 rw [World.size_alloc] at hb
 have hB0 : Below w.heap.size w ((w.alloc (.cells #[.int .i64 0, .int .i64 0] 27)).alloc (.cells #[v] 35)) := ((Below.refl _ w).alloc (Nat.le_refl _) _).alloc (by simp) _
 refine wpIn_rangeFunc_ownF rfl h1 (gf := 38) (lb := #[.pointer (some ⟨w.heap.size + 1, 0, none⟩)]) rfl trivial (enters_of Tryz.func38 (by kernel_rfl) rfl)
  (faults_stops (n - 1) w hg (w.heap.size + 1) _ xs _ (by simp) hB0 hb.1 hL) belowK_t (belowK_b (by simp; omega)) (Below.refl _ _) (fun _ => rfl)
  (fun (pre : List (FN w)) W => ((∀ x ∈ pre, placedB x.1.2.2.1 x.1.2.2.2 = false) ∧ W.cell? ⟨w.heap.size, 0, none⟩ = some (.int .i64 0) ∧ W.cell? ⟨w.heap.size, 1, none⟩ = some (.int .i64 0) ∧ W.frozen? ⟨w.heap.size, 0, none⟩ = false ∧ W.frozen? ⟨w.heap.size, 1, none⟩ = false) ∧ Below w.heap.size w W)
  (fun c (pre : List (FN w)) W => (c = .ret ∧ ∃ (p0 : List (FN w)) (x : FN w), pre = p0 ++ [x] ∧ (∀ x ∈ p0, placedB x.1.2.2.1 x.1.2.2.2 = false) ∧ placedB x.1.2.2.1 x.1.2.2.2 = true ∧ W.cell? ⟨w.heap.size, 0, none⟩ = some (.int .i64 x.1.2.2.1) ∧ W.cell? ⟨w.heap.size, 1, none⟩ = some (.int .i64 x.1.2.2.2)) ∧ Below w.heap.size w W)
  (OwnFrom.and (Own.from (fun s A B row hs hg hr => ⟨hs.1, cell_kept hs.2.1 hg hr, cell_kept hs.2.2.1 hg hr, (frozen_kept hs.2.1 hg hr).trans hs.2.2.2.1, (frozen_kept hs.2.2.1 hg hr).trans hs.2.2.2.2⟩) _) (ownFrom_below (Nat.le_refl _) (by simp; omega)))
  (fun c => OwnFrom.and (Own.from (fun s A B row hs hg hr => ⟨hs.1, hs.2.elim fun p0 h => h.elim fun x hx => ⟨p0, x, hx.1, hx.2.1, hx.2.2.1, cell_kept hx.2.2.2.1 hg hr, cell_kept hx.2.2.2.2 hg hr⟩⟩) _) (ownFrom_below (Nat.le_refl _) (by simp; omega)))
  ⟨⟨by simp, cell_alloc _ hs0, cell_alloc _ hs1, frozen_alloc _ hs0 hf0, frozen_alloc _ hs1 hf1⟩, hB0⟩
  (fun x => { tmps := #[v, undef, .pointer (some ⟨w.heap.size, 0, none⟩), .pointer (some ⟨x.1.1, 0, none⟩), v, .func (.func 38) #[] #[.pointer (some ⟨w.heap.size + 1, 0, none⟩)], .pointer (some ⟨x.1.1, 0, none⟩), undef, undef, undef, undef, undef, undef, undef], defers := [] }) ?assign ?body ?done ?stop
 case assign =>
  intro l x W K hK
  gi_wp2
  exact hK
 case body =>
  rintro l pre x W ⟨⟨hp, hc0, hc1, hz0, hz1⟩, hB⟩ hpl
  have hl1 : W.cell? ⟨x.1.1, 1, none⟩ = some (.int .i64 x.1.2.2.1) := (hB.cell (p := ⟨x.1.1, 1, none⟩) x.2.1).trans x.2.2.2.1
  have hl2 : W.cell? ⟨x.1.1, 2, none⟩ = some (.int .i64 x.1.2.2.2) := (hB.cell (p := ⟨x.1.1, 2, none⟩) x.2.1).trans x.2.2.2.2.1
  have HP : Hid (∀ x ∈ pre, placedB x.1.2.2.1 x.1.2.2.2 = false) := hp
  clear hp
  gi_wp2_with (refine ⟨trivial, ?_⟩; gi_at_call 23; refine (CallsIn.inRound l (callsIn_wide.2 (placed_at _ _ _ _ hl1 hl2))).mono ?_; rintro e w' ⟨rfl, rfl⟩)
  ·rename_i hx
   refine ⟨(KeepsOthers.setCell _ _ _).trans (KeepsOthers.setCell _ _ _), ⟨rfl, pre, x, rfl, HP.out, hx, ?_, ?_⟩, (hB.setCell (p := ⟨w.heap.size, 0, none⟩) (Nat.le_refl _) _).setCell (p := ⟨w.heap.size, 1, none⟩) (Nat.le_refl _) _⟩
   ·rw [World.cell?_setCell_other _ ⟨w.heap.size, 1, none⟩ ⟨w.heap.size, 0, none⟩ _ (by simp)]
    exact World.cell?_setCell_same' _ _ _ (by rw [hc0]; rfl)
   ·exact World.cell?_setCell_same' _ _ _ (by rw [World.cell?_setCell_other _ ⟨w.heap.size, 0, none⟩ ⟨w.heap.size, 1, none⟩ _ (by simp), hc1]; rfl)
  ·rename_i hx
   exact ⟨KeepsOthers.refl _, Below.refl _ _, ⟨fun y hy => (List.mem_append.1 hy).elim (HP.out y) (fun e => by simp at e; subst e; simpa using hx), hc0, hc1, hz0, hz1⟩, hB⟩
 case done =>
  rintro D ys W hD rfl ⟨⟨hne, hc0, hc1, hz0, hz1⟩, hB⟩ hK
  have HP : Hid (∀ x ∈ ys, placedB x.1.2.2.1 x.1.2.2.2 = false) := hne
  clear hne
  gi_wp2
  have hk1 := (KeepsOthers.setCell W ⟨w.heap.size, 0, none⟩ (.int .i64 0)).trans (KeepsOthers.setCell _ ⟨w.heap.size, 1, none⟩ (.int .i64 0))
  have hK' := hk1.same D _ hK rfl
  refine ⟨by simp, .inl ⟨_, _, rfl, run_takeDeferred hK', ?_⟩⟩
  have hq0 : ((W.setCell ⟨w.heap.size, 0, none⟩ (.int .i64 0)).setCell ⟨w.heap.size, 1, none⟩ (.int .i64 0)).cell? ⟨w.heap.size, 0, none⟩ = some (.int .i64 0) := by
   rw [World.cell?_setCell_other _ ⟨w.heap.size, 1, none⟩ ⟨w.heap.size, 0, none⟩ _ (by simp)]
   exact World.cell?_setCell_same' _ _ _ (by rw [hc0]; rfl)
  have hq1 : ((W.setCell ⟨w.heap.size, 0, none⟩ (.int .i64 0)).setCell ⟨w.heap.size, 1, none⟩ (.int .i64 0)).cell? ⟨w.heap.size, 1, none⟩ = some (.int .i64 0) :=
   World.cell?_setCell_same' _ _ _ (by rw [World.cell?_setCell_other _ ⟨w.heap.size, 0, none⟩ ⟨w.heap.size, 1, none⟩ _ (by simp), hc1]; rfl)
  have hc5 := cell_kept hq0 (grownBy_putObj' _ D (.deferred none)) (fun r e => by cases e; exact ⟨_, hK', rfl⟩)
  have hc6 := cell_kept hq1 (grownBy_putObj' _ D (.deferred none)) (fun r e => by cases e; exact ⟨_, hK', rfl⟩)
  have hsp : spotOf ks = (0, 0) := by
   rw [← HM.out, ← List.append_nil (ys.map _), spotOf_append_none]
   ·rfl
   ·intro x hx
    obtain ⟨y, hy, rfl⟩ := List.mem_map.1 hx
    exact HP.out y hy
  refine ⟨.agg #[.int .i64 0, .int .i64 0], ?_, by rw [hsp], ((hB.setCell (p := ⟨w.heap.size, 0, none⟩) (by simp) _).setCell (p := ⟨w.heap.size, 1, none⟩) (by simp) _).trans (belowK_b (w := w) (Nat.le_refl _) _ D _ _ (by simp at hD; omega) hK' rfl rfl)⟩
  simp [results, Tryz.f11, go_sem, hc5, hc6]
 case stop =>
  rintro D c pre W hD hpre ⟨⟨rfl, p0, x, rfl, hne, hpl, hc0, hc1⟩, hB⟩ hK
  have HP : Hid (∀ x ∈ p0, placedB x.1.2.2.1 x.1.2.2.2 = false) := hne
  clear hne
  have HX : Hid (placedB x.1.2.2.1 x.1.2.2.2 = true) := hpl
  clear hpl
  gi_wp2
  refine ⟨by simp, .inl ⟨_, _, rfl, run_takeDeferred hK, ?_⟩⟩
  have hc5 := cell_kept hc0 (grownBy_putObj' _ D (.deferred none)) (fun r e => by cases e; exact ⟨_, hK, rfl⟩)
  have hc6 := cell_kept hc1 (grownBy_putObj' _ D (.deferred none)) (fun r e => by cases e; exact ⟨_, hK, rfl⟩)
  have hsp : spotOf ks = x.1.2.2 := by
   obtain ⟨t, ht⟩ := hpre
   rw [← HM.out, ← ht, List.append_assoc, List.map_append, spotOf_append_none]
   ·simp only [List.cons_append, List.nil_append, List.map_cons, spotOf]
    rw [if_pos HX.out]
   ·intro x hx
    obtain ⟨y, hy, rfl⟩ := List.mem_map.1 hx
    exact HP.out y hy
  refine ⟨.agg #[.int .i64 x.1.2.2.1, .int .i64 x.1.2.2.2], ?_, by rw [hsp], hB.trans (belowK_b (w := w) (Nat.le_refl _) W D _ _ (by simp at hD; omega) hK rfl rfl)⟩
  simp [results, Tryz.f11, go_sem, hc5, hc6]
end Go.Proofs.YtgpkdjhllekihaaGreatDoor.Flt
