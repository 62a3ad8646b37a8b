/- fault.Code by its contract, over chains of faults. -/
import Derived.Test.YtgpkdjhllekihaaGreatDoorFVisit
namespace Go.Proofs.YtgpkdjhllekihaaGreatDoor.Flt
set_option linter.unusedVariables false
set_option maxRecDepth 100000
open Go.RowKit Go.Shelf

attribute [local go_sem] Oper.semAt_some

theorem cell_of_box {W : World} {B : Nat} {v : Value} {t : TypeId} (h : W.heap[B]? = some (.cells #[v] t (0, 0))) : W.cell? ⟨B, 0, none⟩ = some v ∧ W.frozen? ⟨B, 0, none⟩ = false := by
 constructor <;> simp [World.cell?, World.frozen?, h]
theorem cell_new (W : World) (v : Value) (t : TypeId) : (W.alloc (.cells #[v] t)).cell? ⟨W.heap.size, 0, none⟩ = some v ∧ (W.alloc (.cells #[v] t)).frozen? ⟨W.heap.size, 0, none⟩ = false :=
 cell_of_box (World.alloc_heap_new W _)
theorem cell_alloc {W : World} {a : Addr} {v : Value} (o : Obj) (h : W.cell? a = some v) : (W.alloc o).cell? a = some v := cell_kept h (World.grownBy_alloc W o none) (fun r e => by cases e)
theorem frozen_alloc {W : World} {a : Addr} {v : Value} (o : Obj) (h : W.cell? a = some v) (hf : W.frozen? a = false) : (W.alloc o).frozen? a = false := (frozen_kept h (World.grownBy_alloc W o none) (fun r e => by cases e)).trans hf

set_option maxRecDepth 100000 in
set_option maxHeartbeats 2000000 in
theorem Code_nil (n : Nat) (hn : 3 ≤ n) (w : World) :
  CallsIn Fence.wide n Tryz.prog 10 #[.nilIface] w fun e W' => e = .returned (.int .i64 0) ∧ Below w.heap.size w W' := by
 have h1 : 1 ≤ n := by omega
 refine callsIn_of_wp_marks Tryz.func10 rfl trivial ?_ rfl
 simp only [Tryz.ntmps10, List.size_toArray, List.length_cons, List.length_nil, Nat.reduceAdd, Nat.reduceSub, Array.replicate_succ, Array.replicate_zero, List.push_toArray, List.append_toArray, List.nil_append, List.cons_append]
 gi_wp2
 refine ⟨.int .i64 0, by simp [results, Tryz.f10, go_sem], rfl, (Below.refl _ w).alloc (Nat.le_refl _) _⟩

set_option maxRecDepth 100000 in
set_option maxHeartbeats 2000000 in
theorem Code_in (n : Nat) (hn : 3 ≤ n) (v : Value) (k0 : Int × Int × Int) (ks : List (Int × Int × Int)) (w : World) (hg : Et w) (hc : Chain w v (k0 :: ks)) :
  CallsIn Fence.wide n Tryz.prog 10 #[v] w fun e W' => e = .returned (.int .i64 k0.1) ∧ Below w.heap.size w W' := by
 have h1 : 1 ≤ n := by omega
 have hlt := hg.pos
 obtain ⟨xs, hL, hmap⟩ := hc
 have hvi := hL.iface
 obtain ⟨x0, rest, rfl⟩ : ∃ x0 rest, xs = x0 :: rest := by cases xs with
  | nil => simp at hmap
  | cons a b => exact ⟨a, b, rfl⟩
 have hk0 : x0.1.2 = k0 := by simp at hmap; exact hmap.1
 have HK : Hid (x0.1.2 = k0) := hk0
 clear hk0 hmap
 have hv : v = .iface 69 (.pointer (some ⟨x0.1.1, 0, none⟩)) := hL.1
 subst hv
 refine callsIn_of_wp_marks Tryz.func10 rfl trivial ?_ rfl
 simp only [Tryz.ntmps10, List.size_toArray, List.length_cons, List.length_nil, Nat.reduceAdd, Nat.reduceSub, Array.replicate_succ, Array.replicate_zero, List.push_toArray, List.append_toArray, List.nil_append, List.cons_append]
 gi_wp2_with (refine ⟨trivial, ?_⟩; gi_at_call 22; refine (faults_in (n - 1) _ hvi _).mono ?_; rintro e w' ⟨rfl, rfl⟩)
 have hs := cell_new w (.int .i64 0) 3
 have hb := cell_new (w.alloc (.cells #[.int .i64 0] 3)) (.iface 69 (.pointer (some ⟨x0.1.1, 0, none⟩))) 35
 rw [World.size_alloc] at hb
 have hB0 : Below w.heap.size w ((w.alloc (.cells #[.int .i64 0] 3)).alloc (.cells #[.iface 69 (.pointer (some ⟨x0.1.1, 0, none⟩))] 35)) := ((Below.refl _ w).alloc (Nat.le_refl _) _).alloc (by simp) _
 refine wpIn_rangeFunc_ownF rfl h1 (gf := 38) (lb := #[.pointer (some ⟨w.heap.size + 1, 0, none⟩)]) rfl trivial (enters_of Tryz.func38 (by kernel_rfl) rfl)
  (faults_stops (n - 1) w hg (w.heap.size + 1) _ (x0 :: rest) _ (by simp) hB0 hb.1 hL) belowK_t (belowK_b (by simp; omega)) (Below.refl _ _) (fun _ => rfl)
  (fun pre W => (pre = [] ∧ W.cell? ⟨w.heap.size, 0, none⟩ = some (.int .i64 0) ∧ W.frozen? ⟨w.heap.size, 0, none⟩ = false) ∧ Below w.heap.size w W)
  (fun c pre W => (c = .ret ∧ ∃ x, pre = [x] ∧ W.cell? ⟨w.heap.size, 0, none⟩ = some (.int .i64 x.1.2.1)) ∧ Below w.heap.size w W)
  (OwnFrom.and (Own.from (fun s A B row hs hg hr => ⟨hs.1, cell_kept hs.2.1 hg hr, (frozen_kept hs.2.1 hg hr).trans hs.2.2⟩) _) (ownFrom_below (Nat.le_refl _) (by simp; omega)))
  (fun c => OwnFrom.and (Own.from (fun s A B row hs hg hr => ⟨hs.1, hs.2.elim fun x hx => ⟨x, hx.1, cell_kept hx.2 hg hr⟩⟩) _) (ownFrom_below (Nat.le_refl _) (by simp; omega)))
  ⟨⟨rfl, cell_alloc _ hs.1, frozen_alloc _ hs.1 hs.2⟩, hB0⟩
  (fun x => { tmps := #[.iface 69 (.pointer (some ⟨x0.1.1, 0, none⟩)), undef, .pointer (some ⟨w.heap.size, 0, none⟩), .pointer (some ⟨x.1.1, 0, none⟩), .iface 69 (.pointer (some ⟨x0.1.1, 0, none⟩)), .bool false, .iface 69 (.pointer (some ⟨x0.1.1, 0, none⟩)), .func (.func 38) #[] #[.pointer (some ⟨w.heap.size + 1, 0, none⟩)], .pointer (some ⟨x.1.1, 0, none⟩), undef, undef, undef, undef], defers := [] }) ?assign ?body ?done ?stop
 case assign =>
  intro l x W K hK
  gi_wp2
  exact hK
 case body =>
  rintro l pre x W ⟨⟨rfl, hc, hf⟩, hB⟩ hpl
  have hck : W.cell? ⟨x.1.1, 0, none⟩ = some (.int .i64 x.1.2.1) := (hB.cell (p := ⟨x.1.1, 0, none⟩) x.2.1).trans x.2.2.1
  gi_wp2
  exact ⟨KeepsOthers.setCell _ _ _, ⟨rfl, x, rfl, World.cell?_setCell_same' _ _ _ (by rw [hc]; rfl)⟩, hB.setCell (p := ⟨w.heap.size, 0, none⟩) (Nat.le_refl _) _⟩
 case done =>
  rintro D ys W hD rfl ⟨⟨hne, _⟩, hB⟩ hK
  cases hne
 case stop =>
  rintro D c pre W hD hpre ⟨⟨rfl, x, rfl, hcr⟩, hB⟩ hK
  gi_wp2
  refine ⟨by simp, .inl ⟨_, _, rfl, run_takeDeferred hK, ?_⟩⟩
  have hc5 := cell_kept hcr (grownBy_putObj' _ D (.deferred none)) (fun r e => by cases e; exact ⟨_, hK, rfl⟩)
  obtain ⟨t, ht⟩ := hpre
  have hxx : x = x0 := by simp at ht; exact ht.1
  subst hxx
  refine ⟨.int .i64 x.1.2.1, ?_, by rw [HK.out], hB.trans (belowK_b (w := w) (Nat.le_refl _) W D _ _ (by simp at hD; omega) hK rfl rfl)⟩
  simp [results, Tryz.f10, go_sem, hc5]
end Go.Proofs.YtgpkdjhllekihaaGreatDoor.Flt
