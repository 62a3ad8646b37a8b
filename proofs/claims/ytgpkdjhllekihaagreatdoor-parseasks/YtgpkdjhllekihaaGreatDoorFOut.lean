/- fault.outermost, fault.partsAhead by contracts: at a *fault, and at nil. -/
import Derived.Test.YtgpkdjhllekihaaGreatDoorFAs
import Derived.Defers
import Derived.Recover
import Derived.Laws.Pointers
import Derived.LaidEql
import Derived.Below
namespace Go.Proofs.YtgpkdjhllekihaaGreatDoor.Flt
open Go.RowKit Go.Extern.Stop Go.Stop Go.Extern

theorem catch_idle (p q : Addr) (w : World) :
  CallsD Tryz.prog 84 #[.pointer (some p), .pointer (some q)] .returning w fun e u' w' => e = .returned (.tuple #[]) ∧ u' = .returning ∧ w' = w := by
 refine callsD_of_wpS Tryz.func84 rfl fun c₀ cs hu => ?_
 apply wpS_seq
 apply wpS_region
 simp [wpOpsS, go_sem, recoverD, hu, Tryz.ntmps84, Exit.thenS]
 refine wpS_cond (t := false) (by simp [Act.eval, Array.replicate]) ?_
 simp only [Bool.false_eq_true, if_false]
 refine wpS_of_wp (wp_skip ?_)
 cases c₀
 simp_all [bodyPostS, results, Tryz.results84]

set_option maxHeartbeats 1000000 in
theorem outermost_nil (w : World) :
  Calls Tryz.prog 61 #[.nilIface] w fun ev w' => ev = .returned (.tuple #[.pointer none, .bool false]) ∧ Below w.heap.size w w' := by
 have hmf : ∀ (fn : Fn) (first cap : Array Value) (w : World), (Instr.makeFunc fn first cap).run Tryz.prog w = .ok (.func fn first cap) w := fun _ _ _ _ => rfl
 go_enter_defers Tryz.func61, Tryz.ntmps61
 go_wp2_with (go_at_call 28; refine (as_nil _ _).mono ?_; rintro e w' ⟨rfl, rfl⟩)
 go_region
 go_wp2
 refine leaves_cons (f := 84) (args := #[.pointer (some ⟨w.heap.size, 0, none⟩), .pointer (some ⟨w.heap.size + 1, 0, none⟩)]) (by simp) (by simp [go_sem]) ?_
 refine (catch_idle _ _ _).mono ?_
 rintro e u' w'' ⟨rfl, rfl, rfl⟩
 refine ⟨.tuple #[.pointer none, .bool false], by simp [results, Tryz.results61, go_sem], rfl, ?_⟩
 exact (((Below.refl _ w).alloc (Nat.le_refl _) _).alloc (by simp) _).drew

set_option maxHeartbeats 1000000 in
theorem outermost_hit (e : Addr) (w : World) (hg : w.cell? ⟨0, 0, none⟩ = some (.iface 152 (.agg #[.pointer (some ⟨6, 35, none⟩)]))) :
  Calls Tryz.prog 61 #[.iface 69 (.pointer (some e))] w fun ev w' => ev = .returned (.tuple #[.pointer (some e), .bool true]) ∧ Below w.heap.size w w' := by
 have hmf : ∀ (fn : Fn) (first cap : Array Value) (w : World), (Instr.makeFunc fn first cap).run Tryz.prog w = .ok (.func fn first cap) w := fun _ _ _ _ => rfl
 have hlt : 0 < w.heap.size := by
  rcases Nat.eq_zero_or_pos w.heap.size with h0 | h
  ·simp [World.cell?, h0] at hg
  ·exact h
 have hg2 : ((w.alloc (.cells #[.pointer none] 69)).alloc (.cells #[.bool false] 4)).cell? ⟨0, 0, none⟩ = some (.iface 152 (.agg #[.pointer (some ⟨6, 35, none⟩)])) := by
  rw [World.cell?_alloc_lt _ _ ⟨0, 0, none⟩ (by simp), World.cell?_alloc_lt _ _ ⟨0, 0, none⟩ hlt]; exact hg
 have ht : ((w.alloc (.cells #[.pointer none] 69)).alloc (.cells #[.bool false] 4)).cell? ⟨w.heap.size, 0, none⟩ = some (.pointer none) := by
  rw [World.cell?_alloc_lt _ _ _ (by simp)]; simp
 have hf : ((w.alloc (.cells #[.pointer none] 69)).alloc (.cells #[.bool false] 4)).frozen? ⟨w.heap.size, 0, none⟩ = false := by
  rw [World.frozen?_alloc_old _ _ _ (by simp)]; simp
 go_enter_defers Tryz.func61, Tryz.ntmps61
 go_wp2_with (go_at_call 28; refine (as_hit _ _ _ _ hg2 ht hf).mono ?_; rintro e w' ⟨rfl, rfl⟩)
 go_region
 go_wp2
 refine leaves_cons (f := 84) (args := #[.pointer (some ⟨w.heap.size, 0, none⟩), .pointer (some ⟨w.heap.size + 1, 0, none⟩)]) (by simp) (by simp [go_sem]) ?_
 refine (catch_idle _ _ _).mono ?_
 rintro e u' w'' ⟨rfl, rfl, rfl⟩
 refine ⟨.tuple #[.pointer (some _), .bool true], by simp [results, Tryz.results61, go_sem], rfl, ?_⟩
 exact (((((((Below.refl _ w).alloc (Nat.le_refl _) _).alloc (by simp) _).alloc (by simp; omega) _).alloc (by simp; omega) _).alloc (by simp; omega) _).alloc (by simp; omega) _).drew

theorem run_neq_iface_ptr_same {P : Program} (w : World) {ti tp te : TypeId} {ms : Array (String × TypeId)} {i j : TypeInfo} (a : Addr)
  (hi : P.underlying ti = some (.interface ms)) (hp : P.underlying tp = some (.pointer te)) (hinfo : P.info? tp = some i) (hcomp : i.comparable = true) (hte : P.info? te = some j) :
  (binOp .neq ti (.iface tp (.pointer (some a))) (.iface tp (.pointer (some a)))).run P w = .ok (.bool false) w := by
 simp only [binOp]
 simp [Op.equal, Op.maxDepth, run_equalIn_iface_ptr_same w 9998 a hi hp hinfo hcomp hte]

theorem neq41 (a : Addr) (w : World) : (binOp .neq 35 (.iface 69 (.pointer (some a))) (.iface 69 (.pointer (some a)))).run Tryz.prog w = .ok (.bool false) w := by
 have hc : (Tryz.prog.info? 69).map (·.comparable) = some true := by kernel_rfl
 have h4 : (Tryz.prog.info? 72).map (fun _ => true) = some true := by kernel_rfl
 cases h1 : Tryz.prog.info? 69 with
 | none => simp [h1] at hc
 | some i =>
  cases h2 : Tryz.prog.info? 72 with
  | none => simp [h2] at h4
  | some j => exact run_neq_iface_ptr_same w a Tryz.underlying35 Tryz.underlying69 h1 (by simpa [h1] using hc) h2

set_option maxHeartbeats 1000000 in
theorem partsAhead_hit (e : Addr) (w : World) :
  Calls Tryz.prog 62 #[.iface 69 (.pointer (some e)), .pointer (some e)] w fun ev w' => ev = .returned (.slice none 0 0) ∧ w' = w := by
 have hn := neq41 e
 go_enter Tryz.func62, Tryz.ntmps62
 go_wp2
 refine wp_loop_rounds 1 ?_
 rw [rounds_succ]
 go_wp2
 go_ret
 exact ⟨rfl, rfl⟩
end Go.Proofs.YtgpkdjhllekihaaGreatDoor.Flt
