/- The order by which venue.sorted sorts: its closure by a contract. -/
import Derived.Test.YtgpkdjhllekihaaGreatDoorVSl
import Derived.Test.YtgpkdjhllekihaaGreatDoorShelfS
namespace Go.Proofs.YtgpkdjhllekihaaGreatDoor.Ven
set_option linter.unusedVariables false
set_option maxRecDepth 100000
open Go.RowKit Go.Shelf

set_option maxHeartbeats 2000000 in
theorem closure_any (B : Nat) (l : List Seat) (b off cap : Nat) (i j : Nat) (hi : i < l.length) (hj : j < l.length) (hl : l.length ≤ 4096) (W : World) (hB : B < W.heap.size)
  (hc : W.cell? ⟨B, 0, none⟩ = some (.slice (some ⟨b, off, none⟩) l.length cap)) (hC : Cells 4 seatC W b off l) :
  Calls Tryz.prog 96 #[.int .i64 i, .int .i64 j, .pointer (some ⟨B, 0, none⟩)] W fun e w' => e = .returned (.int .i64 (cmpS l[i] l[j])) ∧ Grew W w' := by
 have si := fun n os => ((hC.seat i hi).next (grown_below W n os))
 have sj := fun n os => ((hC.seat j hj).next (grown_below W n os))
 have hcm := compare_any l[i].row l[i].x l[i].y l[i].kind l[j].row l[j].x l[j].y l[j].kind
 have h0 : ∀ n os, (Go.Sort.grow (W.drewN n) os).cell? ⟨B, 0, none⟩ = some (.slice (some ⟨b, off, none⟩) l.length cap) := fun n os => cell_grown (a := ⟨B, 0, none⟩) hB hc n os
 have hiz : (i : Int) < (l.length : Int) := by omega
 have hjz : (j : Int) < (l.length : Int) := by omega
 have hx : cmpS l[i] l[j] = cmpS ⟨l[i].row, l[i].x, l[i].y, l[i].kind⟩ ⟨l[j].row, l[j].x, l[j].y, l[j].kind⟩ := rfl
 rw [hx]
 generalize l[i].row = r1 at si hcm ⊢
 generalize l[i].x = x1 at si hcm ⊢
 generalize l[i].y = y1 at si hcm ⊢
 generalize l[i].kind = k1 at si hcm ⊢
 generalize l[j].row = r2 at sj hcm ⊢
 generalize l[j].x = x2 at sj hcm ⊢
 generalize l[j].y = y2 at sj hcm ⊢
 generalize l[j].kind = k2 at sj hcm ⊢
 generalize cmpS ⟨r1, x1, y1, k1⟩ ⟨r2, x2, y2, k2⟩ = z at hcm ⊢
 have d0 := fun n os => (si n os).c0
 have d1 := fun n os => (si n os).c1
 have d2 := fun n os => (si n os).c2
 have d3 := fun n os => (si n os).c3
 have e0 := fun n os => (sj n os).c0
 have e1 := fun n os => (sj n os).c1
 have e2 := fun n os => (sj n os).c2
 have e3 := fun n os => (sj n os).c3
 clear si sj hC hc hx
 go_enter Tryz.func96, Tryz.ntmps96
 go_wp2_with fail
 refine wp_region_quiet_grown mixed (by kernel_rfl) ?_
 repeat (go_big_quiet_step ((go_at_call 97; exact Calls.grown_of (hcm _))))
 refine wpQuiet_nil ?_
 intro _ hw'
 obtain ⟨⟨nq, osq⟩, hw''⟩ := hw'
 subst hw''
 go_wp2
 go_ret
 exact ⟨rfl, nq, osq, rfl⟩
end Go.Proofs.YtgpkdjhllekihaaGreatDoor.Ven
