/- errors.Is of two fault.kind values, fault.New, fault.Wrap, (*fault).placed by contracts. -/
import Derived.Test.YtiidgekembgdcaaDoorVisit
import Derived.Lib.IfaceEq
namespace Go.Proofs.YtiidgekembgdcaaDoor
open Go.RowKit Go.Extern.Stop Go.Stop Go.Extern

theorem Tryd.typeOf42 (v : Value) (w : World) : (ReflectliteType.typeOf #[.iface 42 v]).run Tryd.prog w = .ok (.iface 72 (.agg #[.pointer (some ⟨4, 42, none⟩)])) w := by kernel_rfl
theorem Tryd.methodComparable (h : Value) (w : World) : (Go.method 244 72 (.agg #[h]) "Comparable").run Tryd.prog w = .ok (81, .agg #[h]) w := by kernel_rfl
theorem Tryd.comparable42 (w : World) : (ReflectliteType.method (fun t => do Rtype.noPackHeld "Comparable" t; (fun a : TypeInfo => Value.bool a.comparable) <$> typeInfo t) #[.agg #[.pointer (some ⟨4, 42, none⟩)]]).run Tryd.prog w = .ok (.bool true) w := by kernel_rfl
theorem Tryd.noIs42 (v : Value) (xT : TypeId) (w : World) : (Instr.typeAssert (.iface 42 v) xT 74 true).run Tryd.prog w = .ok (.tuple #[.nilIface, .bool false]) w := run_typeAssert_lacksB Tryd.underlying74 (by kernel_rfl) (by kernel_rfl) v xT w
theorem Tryd.noUnwrap42 (v : Value) (xT : TypeId) (w : World) : (Instr.typeAssert (.iface 42 v) xT 77 true).run Tryd.prog w = .ok (.tuple #[.nilIface, .bool false]) w := run_typeAssert_lacksB Tryd.underlying77 (by kernel_rfl) (by kernel_rfl) v xT w
theorem Tryd.noUnwraps42 (v : Value) (xT : TypeId) (w : World) : (Instr.typeAssert (.iface 42 v) xT 79 true).run Tryd.prog w = .ok (.tuple #[.nilIface, .bool false]) w := run_typeAssert_lacksB Tryd.underlying79 (by kernel_rfl) (by kernel_rfl) v xT w

set_option maxRecDepth 100000 in
set_option maxHeartbeats 2000000 in
theorem errorsIs_eq (a : Int) (w : World) :
    Calls Tryd.prog 18 #[.iface 42 (.int .i64 a), .iface 42 (.int .i64 a)] w fun e w' => e = .returned (.bool true) ∧ w' = w := by
  have h28 := @run_callFunc_extern Tryd.prog 28 _ ReflectliteType.typeOf Tryd.func28 (by kernel_rfl) (by kernel_rfl) (by kernel_rfl) (by kernel_rfl)
  have h81 := @run_callFunc_extern Tryd.prog 81 _ (ReflectliteType.method fun t => do Rtype.noPackHeld "Comparable" t; pure (.bool (← typeInfo t).comparable)) Tryd.func81 (by kernel_rfl) (by kernel_rfl) (by kernel_rfl) (by kernel_rfl)
  have t1 := Tryd.typeOf42
  have t2 := Tryd.methodComparable
  have t3 := Tryd.comparable42
  have he := fun w => Lib.run_eql_iface_int (P := Tryd.prog) w (t := 23) (tx := 42) (k := .i64) (q := .i64) a a Tryd.underlying23 (by kernel_rfl) Tryd.underlying42
  simp only [beq_self_eq_true] at he
  go_enter Tryd.func18, Tryd.ntmps18
  go_wp2
  refine wp_loop_rounds 1 ?_
  rw [rounds_succ]
  go_wp2
  go_ret
  exact ⟨rfl, rfl⟩

set_option maxRecDepth 100000 in
set_option maxHeartbeats 2000000 in
theorem errorsIs_ne (a b : Int) (hab : a ≠ b) (w : World) :
    Calls Tryd.prog 18 #[.iface 42 (.int .i64 a), .iface 42 (.int .i64 b)] w fun e w' => e = .returned (.bool false) ∧ w' = w := by
  have h28 := @run_callFunc_extern Tryd.prog 28 _ ReflectliteType.typeOf Tryd.func28 (by kernel_rfl) (by kernel_rfl) (by kernel_rfl) (by kernel_rfl)
  have h81 := @run_callFunc_extern Tryd.prog 81 _ (ReflectliteType.method fun t => do Rtype.noPackHeld "Comparable" t; pure (.bool (← typeInfo t).comparable)) Tryd.func81 (by kernel_rfl) (by kernel_rfl) (by kernel_rfl) (by kernel_rfl)
  have t1 := Tryd.typeOf42
  have t2 := Tryd.methodComparable
  have t3 := Tryd.comparable42
  have n1 := Tryd.noIs42
  have n2 := Tryd.noUnwrap42
  have n3 := Tryd.noUnwraps42
  have he := fun w => Lib.run_eql_iface_int (P := Tryd.prog) w (t := 23) (tx := 42) (k := .i64) (q := .i64) a b Tryd.underlying23 (by kernel_rfl) Tryd.underlying42
  simp only [beq_eq_false_iff_ne.2 hab] at he
  go_enter Tryd.func18, Tryd.ntmps18
  go_wp2
  refine wp_loop_rounds 1 ?_
  rw [rounds_succ]
  go_wp2
  go_ret
  exact ⟨rfl, rfl⟩

theorem errorsIs (a b : Int) (w : World) :
    Calls Tryd.prog 18 #[.iface 42 (.int .i64 a), .iface 42 (.int .i64 b)] w fun e w' => e = .returned (.bool (a == b)) ∧ w' = w := by
  by_cases h : a = b
  · subst h; simpa using errorsIs_eq a w
  · rw [beq_eq_false_iff_ne.2 h]; exact errorsIs_ne a b h w

/-! ### New, Wrap, placed -/
theorem New_none (k l c : Int) (hk : k ≤ 0) (w : World) :
    Calls Tryd.prog 7 #[.int .i64 k, .int .i64 l, .int .i64 c] w fun e w' => e = .returned .nilIface ∧ w' = w := by
  go_enter Tryd.func7, Tryd.ntmps7
  go_wp2
  go_ret
  exact ⟨rfl, rfl⟩
theorem New_some (k l c : Int) (hk : 0 < k) (w : World) :
    Calls Tryd.prog 7 #[.int .i64 k, .int .i64 l, .int .i64 c] w fun e w' => e = .returned (.iface 41 (.pointer (some ⟨w.heap.size, 0, none⟩))) ∧ w' = w.alloc (.cells #[.int .i64 k, .int .i64 (max l 0), .int .i64 (max c 0), .nilIface] 44) := by
  by_cases hl : l < 0 <;> by_cases hc : c < 0
  · rw [show max l 0 = 0 by omega, show max c 0 = 0 by omega]
    go_enter Tryd.func7, Tryd.ntmps7
    go_wp2
    go_ret
    exact ⟨rfl, rfl⟩
  · rw [show max l 0 = 0 by omega, show max c 0 = c by omega]
    go_enter Tryd.func7, Tryd.ntmps7
    go_wp2
    go_ret
    exact ⟨rfl, rfl⟩
  · rw [show max l 0 = l by omega, show max c 0 = 0 by omega]
    go_enter Tryd.func7, Tryd.ntmps7
    go_wp2
    go_ret
    exact ⟨rfl, rfl⟩
  · rw [show max l 0 = l by omega, show max c 0 = c by omega]
    go_enter Tryd.func7, Tryd.ntmps7
    go_wp2
    go_ret
    exact ⟨rfl, rfl⟩

theorem Wrap_same (v : Value) (k : Int) (hk : k ≤ 0) (w : World) :
    Calls Tryd.prog 16 #[v, .int .i64 k] w fun e w' => e = .returned v ∧ w' = w := by
  go_enter Tryd.func16, Tryd.ntmps16
  go_wp2
  go_ret
  exact ⟨rfl, rfl⟩
theorem Wrap_nil (k : Int) (hk : 0 < k) (w : World) :
    Calls Tryd.prog 16 #[.nilIface, .int .i64 k] w fun e w' => e = .returned (.iface 41 (.pointer (some ⟨w.heap.size, 0, none⟩))) ∧ w' = w.alloc (.cells #[.int .i64 k, .int .i64 0, .int .i64 0, .nilIface] 44) := by
  go_enter Tryd.func16, Tryd.ntmps16
  go_wp2
  go_ret
  exact ⟨rfl, rfl⟩
theorem Wrap_some (t : TypeId) (x : Value) (k : Int) (hk : 0 < k) (w : World) :
    Calls Tryd.prog 16 #[.iface t x, .int .i64 k] w fun e w' => e = .returned (.iface 41 (.pointer (some ⟨w.heap.size, 0, none⟩))) ∧ w' = w.alloc (.cells #[.int .i64 k, .int .i64 0, .int .i64 0, .iface t x] 44) := by
  go_enter Tryd.func16, Tryd.ntmps16
  go_wp2
  go_ret
  exact ⟨rfl, rfl⟩

/-- What comes of New: nothing, or a chain of one. -/
theorem I64.max0 {n : Int} (h : I64 n) : I64 (max n 0) := by unfold I64 at *; omega
theorem I64.zero : I64 0 := by unfold I64; omega
theorem New_chain (k l c : Int) (hk : 0 < k) (ik : I64 k) (il : I64 l) (ic : I64 c) (w : World) :
    Calls Tryd.prog 7 #[.int .i64 k, .int .i64 l, .int .i64 c] w fun e w' => ∃ v, e = .returned v ∧ Chain w' v [(k, max l 0, max c 0)] ∧ Below w.heap.size w w' := by
  refine (New_some k l c hk w).mono ?_
  rintro e w' ⟨rfl, rfl⟩
  exact ⟨_, rfl, (Chain.nil w).cons _ _ _ ik il.max0 ic.max0, (Below.refl _ w).alloc (Nat.le_refl _) _⟩
/-- What comes of Wrap around a chain, nil too. -/
theorem Wrap_chain (v : Value) (ks : List (Int × Int × Int)) (k : Int) (hk : 0 < k) (ik : I64 k) (w : World) (h : Chain w v ks) :
    Calls Tryd.prog 16 #[v, .int .i64 k] w fun e w' => ∃ v', e = .returned v' ∧ Chain w' v' ((k, 0, 0) :: ks) ∧ Below w.heap.size w w' := by
  have h' := h
  obtain ⟨xs, hl, _⟩ := h'
  rcases hl.iface with rfl | ⟨t, x, rfl⟩
  · refine (Wrap_nil k hk w).mono ?_
    rintro e w' ⟨rfl, rfl⟩
    exact ⟨_, rfl, h.cons _ _ _ ik I64.zero I64.zero, (Below.refl _ w).alloc (Nat.le_refl _) _⟩
  · refine (Wrap_some t x k hk w).mono ?_
    rintro e w' ⟨rfl, rfl⟩
    exact ⟨_, rfl, h.cons _ _ _ ik I64.zero I64.zero, (Below.refl _ w).alloc (Nat.le_refl _) _⟩

theorem placed_not (b : Nat) (w : World) (h1 : w.cell? ⟨b, 1, none⟩ = some (.int .i64 0)) (h2 : w.cell? ⟨b, 2, none⟩ = some (.int .i64 0)) :
    Calls Tryd.prog 20 #[.pointer (some ⟨b, 0, none⟩)] w fun e w' => e = .returned (.bool false) ∧ w' = w := by
  go_enter Tryd.func20, Tryd.ntmps20
  go_wp2
  go_ret
  exact ⟨rfl, rfl⟩
theorem placed_line (b : Nat) (l c : Int) (hl : (l == 0) = false) (w : World) (h1 : w.cell? ⟨b, 1, none⟩ = some (.int .i64 l)) (h2 : w.cell? ⟨b, 2, none⟩ = some (.int .i64 c)) :
    Calls Tryd.prog 20 #[.pointer (some ⟨b, 0, none⟩)] w fun e w' => e = .returned (.bool true) ∧ w' = w := by
  go_enter Tryd.func20, Tryd.ntmps20
  go_wp2
  go_ret
  exact ⟨rfl, rfl⟩
theorem placed_col (b : Nat) (c : Int) (hc : (c == 0) = false) (w : World) (h1 : w.cell? ⟨b, 1, none⟩ = some (.int .i64 0)) (h2 : w.cell? ⟨b, 2, none⟩ = some (.int .i64 c)) :
    Calls Tryd.prog 20 #[.pointer (some ⟨b, 0, none⟩)] w fun e w' => e = .returned (.bool true) ∧ w' = w := by
  go_enter Tryd.func20, Tryd.ntmps20
  go_wp2
  go_ret
  exact ⟨rfl, rfl⟩
def placedB (l c : Int) : Bool := !(l == 0 && c == 0)
theorem placed_at (b : Nat) (l c : Int) (w : World) (h1 : w.cell? ⟨b, 1, none⟩ = some (.int .i64 l)) (h2 : w.cell? ⟨b, 2, none⟩ = some (.int .i64 c)) :
    Calls Tryd.prog 20 #[.pointer (some ⟨b, 0, none⟩)] w fun e w' => e = .returned (.bool (placedB l c)) ∧ w' = w := by
  by_cases hl : l = 0
  · subst hl
    by_cases hc : c = 0
    · subst hc; exact placed_not b w h1 h2
    · have hc' : (c == 0) = false := beq_eq_false_iff_ne.2 hc
      have e : placedB 0 c = true := by simp [placedB, hc]
      rw [e]; exact placed_col b c hc' w h1 h2
  · have hl' : (l == 0) = false := beq_eq_false_iff_ne.2 hl
    have e : placedB l c = true := by simp [placedB, hl]
    rw [e]; exact placed_line b l c hl' w h1 h2
end Go.Proofs.YtiidgekembgdcaaDoor
