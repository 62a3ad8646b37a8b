/- errors.As at the target *wrong of package parse, by contracts; parse.ask, parse.toFault, parse.Check, parse.Venue by their contracts; parse.toFault, parse.Venue by their contracts; What the texts that told reads come to; parterrelaw4.told answers true. -/
import Derived.Test.YtpkjhlcolgoknaaGreatDoorZae
import Derived.Test.YtpkjhlcolgoknaaGreatDoorVBox
import Derived.WalkKit
import Derived.LaidEql
import Derived.Stop.Asserts
import Derived.RowKitTokens
import Derived.Test.YtpkjhlcolgoknaaGreatDoorZai
import Derived.Test.YtpkjhlcolgoknaaGreatDoorZah
import Derived.Test.YtpkjhlcolgoknaaGreatDoorFNew
import Derived.Deep.RegionWith
import Derived.Test.YtpkjhlcolgoknaaGreatDoorFSpotC
import Derived.Test.YtpkjhlcolgoknaaGreatDoorVRSeats
namespace Go.Proofs.YtpkjhlcolgoknaaGreatDoor.Par
set_option linter.unusedVariables false
set_option maxRecDepth 100000
open Go.RowKit Go.Extern.Stop Go.Stop Go.Extern

theorem as_nil (t : Value) (w : World) :
    Calls Tryz.prog 49 #[.nilIface, t] w fun e w' => e = .returned (.bool false) ∧ w' = w := by
  go_enter Tryz.func49, Tryz.ntmps49
  go_wp2
  go_ret
  exact ⟨rfl, rfl⟩

theorem w_valueOf85 (t : Addr) (w : World) : (ReflectliteValue.unpack (.iface 110 (.pointer (some t)))).run Tryz.prog w
    = .ok (.agg #[.pointer (some ⟨6, 110, none⟩), .pointer (some ⟨w.heap.size, 0, none⟩), .int .u64 150]) (w.alloc (.cells #[.pointer (some t)] 110)) := by kernel_rfl
theorem w_type85 (a : Addr) (w : World) : (ReflectliteValue.methodAny (ReflectliteValue.valueError "reflectlite.Value.Type" 0) (fun t _ _ _ => ReflectliteType.toType t) #[.agg #[.pointer (some ⟨6, 110, none⟩), .pointer (some a), .int .u64 150]]).run Tryz.prog w
    = .ok (.iface 184 (.agg #[.pointer (some ⟨6, 110, none⟩)])) w := by kernel_rfl
theorem w_methodKind (h : Value) (w : World) : (Go.method 384 184 (.agg #[h]) "Kind").run Tryz.prog w = .ok (202, h) w := by kernel_rfl
theorem w_kind85 (w : World) : ((ReflectliteType.abiMethod fun t => (fun a : Nat => Value.int IntKind.u8 (a : Int)) <$> Rtype.kind t) #[.pointer (some ⟨6, 110, none⟩)]).run Tryz.prog w = .ok (.int .u8 22) w := by kernel_rfl
theorem w_kind41 (w : World) : ((ReflectliteType.abiMethod fun t => (fun a : Nat => Value.int IntKind.u8 (a : Int)) <$> Rtype.kind t) #[.pointer (some ⟨6, 98, none⟩)]).run Tryz.prog w = .ok (.int .u8 25) w := by kernel_rfl

theorem rlm (z : Sem Value) (f : TypeId → Addr → Nat → Nat → Sem Value) (v : Value) :
    ReflectliteValue.method z f #[v] = (do match ← ReflectliteValue.parts v with | none => z | some (t, a, fl) => f t a fl (fl % 32)) := rfl
theorem w_parts85 (a : Addr) (w : World) : (ReflectliteValue.parts (.agg #[.pointer (some ⟨6, 110, none⟩), .pointer (some a), .int .u64 150])).run Tryz.prog w = .ok (some (110, a, 150)) w := by kernel_rfl
theorem w_isNil85 (a p : Addr) (W : World) (ha : W.cell? a = some (.pointer (some p))) :
    (ReflectliteValue.method (ReflectliteValue.valueError "reflectlite.Value.IsNil" 0) ReflectliteValue.isNil #[.agg #[.pointer (some ⟨6, 110, none⟩), .pointer (some a), .int .u64 150]]).run Tryz.prog W = .ok (.bool false) W := by
  rw [rlm]
  simp only [Sem.run_bind, w_parts85, Result.andThen]
  simp [ReflectliteValue.isNil, loadVar, isAgg, underlying, Tryz.underlying110, ha, Result.andThen]

theorem w_methodElem (h : Value) (w : World) : (Go.method 384 184 (.agg #[h]) "Elem").run Tryz.prog w = .ok (216, .agg #[h]) w := by kernel_rfl
theorem w_methodImplements (h : Value) (w : World) : (Go.method 384 184 (.agg #[h]) "Implements").run Tryz.prog w = .ok (217, .agg #[h]) w := by kernel_rfl
theorem w_methodAssignableTo (h : Value) (w : World) : (Go.method 384 184 (.agg #[h]) "AssignableTo").run Tryz.prog w = .ok (214, .agg #[h]) w := by kernel_rfl
theorem w_elem85 (w : World) : (ReflectliteType.method ReflectliteType.elem #[.agg #[.pointer (some ⟨6, 110, none⟩)]]).run Tryz.prog w = .ok (.iface 184 (.agg #[.pointer (some ⟨6, 98, none⟩)])) w := by kernel_rfl
theorem w_implements41 (w : World) : (ReflectliteType.relation "Implements" ReflectliteType.implements_ #[.agg #[.pointer (some ⟨6, 98, none⟩)], .iface 184 (.agg #[.pointer (some ⟨6, 35, none⟩)])]).run Tryz.prog w = .ok (.bool true) w := by kernel_rfl
theorem w_typeOf41 (v : Value) (w : World) : (ReflectliteType.typeOf #[.iface 98 v]).run Tryz.prog w = .ok (.iface 184 (.agg #[.pointer (some ⟨6, 98, none⟩)])) w := by kernel_rfl
theorem w_assignable41 (w : World) : (ReflectliteType.relation "AssignableTo" ReflectliteType.assignableTo #[.agg #[.pointer (some ⟨6, 98, none⟩)], .iface 184 (.agg #[.pointer (some ⟨6, 98, none⟩)])]).run Tryz.prog w = .ok (.bool true) w := by kernel_rfl
theorem w_valueOf41 (c li co : Int) (w : World) : (ReflectliteValue.unpack (wrongV c li co)).run Tryz.prog w
    = .ok (.agg #[.pointer (some ⟨6, 98, none⟩), .pointer (some ⟨w.heap.size, 0, none⟩), .int .u64 153]) (w.alloc (.cells #[.int .i64 c, .int .i64 li, .int .i64 co] 98)) := by kernel_rfl

theorem w_elemOf85 (w : World) : (Rtype.elem? 110).run Tryz.prog w = .ok (some 98) w := by kernel_rfl
theorem w_mk41 (p : Addr) (w : World) : (ReflectliteValue.mk 98 p ReflectliteValue.flagAddr).run Tryz.prog w = .ok (.agg #[.pointer (some ⟨6, 98, none⟩), .pointer (some p), .int .u64 409]) w := by kernel_rfl
theorem w_elemV85 (a p : Addr) (W : World) (ha : W.cell? a = some (.pointer (some p))) :
    (ReflectliteValue.method (ReflectliteValue.valueError "reflectlite.Value.Elem" 0) ReflectliteValue.elem #[.agg #[.pointer (some ⟨6, 110, none⟩), .pointer (some a), .int .u64 150]]).run Tryz.prog W
      = .ok (.agg #[.pointer (some ⟨6, 98, none⟩), .pointer (some p), .int .u64 409]) W := by
  rw [rlm]
  simp only [Sem.run_bind, w_parts85, Result.andThen]
  simp [ReflectliteValue.elem, loadVar, isAgg, underlying, Tryz.underlying110, ha, Result.andThen, w_elemOf85, w_mk41]
theorem rls (v x : Value) : ReflectliteValue.set #[v, x] = (do
    let (some (dst, a, fl), some (src, b, _)) := (← ReflectliteValue.parts v, ← ReflectliteValue.parts x)
      | unsupported (.noEntry "extern/(internal/reflectlite.Value).Set.zeroValue")
    if fl / ReflectliteValue.flagAddr % 2 == 0 then unsupported (.noEntry "extern/(internal/reflectlite.Value).Set.unaddressable")
    let val ← loadVar src b
    if ← Rtype.directlyAssignable dst src then storeVar dst a val
    else if ← Rtype.implements dst src then
      if (← Rtype.kind src) == 20 then
        match val with
        | .nilIface => unsupported (.noEntry "extern/reflectlite: a nil value of one interface type handed on as a value of another")
        | _ => storeVar dst a val
      else storeVar dst a (.iface src val)
    else panicString ("reflectlite.Set: value of type " ++ (← Rtype.spelt src) ++ " is not assignable to type " ++ (← Rtype.spelt dst))
    pure (.tuple #[])) := rfl
theorem w_parts41a (a : Addr) (w : World) : (ReflectliteValue.parts (.agg #[.pointer (some ⟨6, 98, none⟩), .pointer (some a), .int .u64 409])).run Tryz.prog w = .ok (some (98, a, 409)) w := by kernel_rfl
theorem w_parts41 (a : Addr) (w : World) : (ReflectliteValue.parts (.agg #[.pointer (some ⟨6, 98, none⟩), .pointer (some a), .int .u64 153])).run Tryz.prog w = .ok (some (98, a, 153)) w := by kernel_rfl
theorem w_direct41 (w : World) : (Rtype.directlyAssignable 98 98).run Tryz.prog w = .ok true w := by kernel_rfl
theorem w_agg41 (w : World) : (isAgg 98).run Tryz.prog w = .ok true w := by kernel_rfl
theorem w_size41 (w : World) : (sizeOf 98).run Tryz.prog w = .ok 3 w := by kernel_rfl
theorem w_set41 (tb b : Nat) (o0 o1 o2 : Value) (c li co : Int) (W : World) (h0 : W.cell? ⟨b, 0, none⟩ = some (.int .i64 c)) (h1 : W.cell? ⟨b, 1, none⟩ = some (.int .i64 li)) (h2 : W.cell? ⟨b, 2, none⟩ = some (.int .i64 co))
    (hB : Ven.Box W tb 98 #[o0, o1, o2]) :
    (ReflectliteValue.set #[.agg #[.pointer (some ⟨6, 98, none⟩), .pointer (some ⟨tb, 0, none⟩), .int .u64 409], .agg #[.pointer (some ⟨6, 98, none⟩), .pointer (some ⟨b, 0, none⟩), .int .u64 153]]).run Tryz.prog W
      = .ok (.tuple #[]) (((W.setCell ⟨tb, 0, none⟩ (.int .i64 c)).setCell ⟨tb, 1, none⟩ (.int .i64 li)).setCell ⟨tb, 2, none⟩ (.int .i64 co)) := by
  have c0 := hB.cell 0 _ rfl
  have c1 := hB.cell 1 _ rfl
  have c2 := hB.cell 2 _ rfl
  have f0 := hB.frozen 0
  have f1 := hB.frozen 1
  have f2 := hB.frozen 2
  have c0' : W.cell? ⟨tb, 0, none⟩ = some o0 := c0
  have b1 := hB.set 0 (.int .i64 c)
  have b2 := b1.set 1 (.int .i64 li)
  have d1 : (W.setCell ⟨tb, 0, none⟩ (.int .i64 c)).cell? ⟨tb, 1, none⟩ = some o1 := b1.cell 1 _ rfl
  have d2 : ((W.setCell ⟨tb, 0, none⟩ (.int .i64 c)).setCell ⟨tb, 1, none⟩ (.int .i64 li)).cell? ⟨tb, 2, none⟩ = some o2 := b2.cell 2 _ rfl
  have g1 := b1.frozen 1
  have g2 := b2.frozen 2
  have ag := w_agg41
  have sz := w_size41
  have di := w_direct41
  rw [rls]
  simp only [Sem.run_bind, w_parts41a, w_parts41, Result.andThen]
  simp [ReflectliteValue.flagAddr, loadVar, ag, sz, h0, h1, h2, Result.andThen, di, storeVar, go_sem]
  simp only [c0', f0]
  simp only [Bool.false_eq_true, if_false, d1, g1, d2, g2]

set_option maxHeartbeats 4000000 in
theorem as_wrong (c li co : Int) (tb : Nat) (o0 o1 o2 : Value) (w : World) (hg : w.cell? ⟨0, 0, none⟩ = some (.iface 184 (.agg #[.pointer (some ⟨6, 35, none⟩)]))) (hT : Ven.Box w tb 98 #[o0, o1, o2]) :
    Calls Tryz.prog 49 #[wrongV c li co, .iface 110 (.pointer (some ⟨tb, 0, none⟩))] w fun ev w' => ev = .returned (.bool true) ∧ w' = ((((((w.alloc (.cells #[.pointer (some ⟨tb, 0, none⟩)] 110)).alloc (.cells #[.pointer (some ⟨6, 110, none⟩), .pointer (some ⟨w.heap.size, 0, none⟩), .int .u64 150] 143)).alloc (.cells #[.pointer (some ⟨6, 110, none⟩), .pointer (some ⟨w.heap.size, 0, none⟩), .int .u64 150] 143)).alloc (.cells #[.int .i64 c, .int .i64 li, .int .i64 co] 98)).setCell ⟨tb, 0, none⟩ (.int .i64 c)).setCell ⟨tb, 1, none⟩ (.int .i64 li)).setCell ⟨tb, 2, none⟩ (.int .i64 co) := by
  have h6 := @run_callFunc_extern Tryz.prog 83 _ (fun args => ReflectliteValue.unpack (args.getD 0 (.tuple #[]))) Tryz.func83 (by kernel_rfl) (by kernel_rfl) (by kernel_rfl) (by kernel_rfl)
  have h7 := @run_callFunc_extern Tryz.prog 84 _ (ReflectliteValue.methodAny (ReflectliteValue.valueError "reflectlite.Value.Type" 0) (fun t _ _ _ => ReflectliteType.toType t)) Tryz.func84 (by kernel_rfl) (by kernel_rfl) (by kernel_rfl) (by kernel_rfl)
  have h8 := @run_callFunc_extern Tryz.prog 85 _ (ReflectliteValue.method (ReflectliteValue.valueError "reflectlite.Value.IsNil" 0) ReflectliteValue.isNil) Tryz.func85 (by kernel_rfl) (by kernel_rfl) (by kernel_rfl) (by kernel_rfl)
  have h27 := @run_callFunc_extern Tryz.prog 202 _ (ReflectliteType.abiMethod fun t => do pure (.int .u8 (← Rtype.kind t))) Tryz.func202 (by kernel_rfl) (by kernel_rfl) (by kernel_rfl) (by kernel_rfl)
  have h37 := @run_callFunc_extern Tryz.prog 216 _ (ReflectliteType.method ReflectliteType.elem) Tryz.func216 (by kernel_rfl) (by kernel_rfl) (by kernel_rfl) (by kernel_rfl)
  have h38 := @run_callFunc_extern Tryz.prog 217 _ (ReflectliteType.relation "Implements" ReflectliteType.implements_) Tryz.func217 (by kernel_rfl) (by kernel_rfl) (by kernel_rfl) (by kernel_rfl)
  have h10 := @run_callFunc_extern Tryz.prog 117 _ ReflectliteType.typeOf Tryz.func117 (by kernel_rfl) (by kernel_rfl) (by kernel_rfl) (by kernel_rfl)
  have h35 := @run_callFunc_extern Tryz.prog 214 _ (ReflectliteType.relation "AssignableTo" ReflectliteType.assignableTo) Tryz.func214 (by kernel_rfl) (by kernel_rfl) (by kernel_rfl) (by kernel_rfl)
  have h11 := @run_callFunc_extern Tryz.prog 118 _ (ReflectliteValue.method (ReflectliteValue.valueError "reflectlite.Value.Elem" 0) ReflectliteValue.elem) Tryz.func118 (by kernel_rfl) (by kernel_rfl) (by kernel_rfl) (by kernel_rfl)
  have h12 := @run_callFunc_extern Tryz.prog 119 _ ReflectliteValue.set Tryz.func119 (by kernel_rfl) (by kernel_rfl) (by kernel_rfl) (by kernel_rfl)
  have tO := w_typeOf41
  have mA := w_methodAssignableTo
  have a25 := w_assignable41
  have v25 := w_valueOf41
  have f6 := w_valueOf85
  have f7 := w_type85
  have mK := w_methodKind
  have mE := w_methodElem
  have mI := w_methodImplements
  have k27 := w_kind85
  have k25 := w_kind41
  have e27 := w_elem85
  have i25 := w_implements41
  have n8 := w_isNil85 ⟨w.heap.size, 0, none⟩ ⟨tb, 0, none⟩ ((w.alloc (.cells #[.pointer (some ⟨tb, 0, none⟩)] 110)).alloc (.cells #[.pointer (some ⟨6, 110, none⟩), .pointer (some ⟨w.heap.size, 0, none⟩), .int .u64 150] 143)) (by simp)
  have hlt : 0 < w.heap.size := by
    rcases Nat.eq_zero_or_pos w.heap.size with h0 | h
    · simp [World.cell?, h0] at hg
    · exact h
  have hg2 : ((w.alloc (.cells #[.pointer (some ⟨tb, 0, none⟩)] 110)).alloc (.cells #[.pointer (some ⟨6, 110, none⟩), .pointer (some ⟨w.heap.size, 0, none⟩), .int .u64 150] 143)).cell? ⟨0, 0, none⟩ = some (.iface 184 (.agg #[.pointer (some ⟨6, 35, none⟩)])) := by
    rw [World.cell?_alloc_lt _ _ ⟨0, 0, none⟩ (by simp), World.cell?_alloc_lt _ _ ⟨0, 0, none⟩ hlt]; exact hg
  have htl := hT.lt
  have el := w_elemV85 ⟨w.heap.size, 0, none⟩ ⟨tb, 0, none⟩ (((w.alloc (.cells #[.pointer (some ⟨tb, 0, none⟩)] 110)).alloc (.cells #[.pointer (some ⟨6, 110, none⟩), .pointer (some ⟨w.heap.size, 0, none⟩), .int .u64 150] 143)).alloc (.cells #[.pointer (some ⟨6, 110, none⟩), .pointer (some ⟨w.heap.size, 0, none⟩), .int .u64 150] 143)) (by rw [World.cell?_alloc_lt _ _ ⟨w.heap.size, 0, none⟩ (by simp; omega)]; simp)
  have hB4 : Below w.heap.size w ((((w.alloc (.cells #[.pointer (some ⟨tb, 0, none⟩)] 110)).alloc (.cells #[.pointer (some ⟨6, 110, none⟩), .pointer (some ⟨w.heap.size, 0, none⟩), .int .u64 150] 143)).alloc (.cells #[.pointer (some ⟨6, 110, none⟩), .pointer (some ⟨w.heap.size, 0, none⟩), .int .u64 150] 143)).alloc (.cells #[.int .i64 c, .int .i64 li, .int .i64 co] 98)) := ((((Below.refl _ w).alloc (Nat.le_refl _) _).alloc (by simp) _).alloc (by simp; omega) _).alloc (by simp; omega) _
  have st := w_set41 tb (w.heap.size + 1 + 1 + 1) o0 o1 o2 c li co ((((w.alloc (.cells #[.pointer (some ⟨tb, 0, none⟩)] 110)).alloc (.cells #[.pointer (some ⟨6, 110, none⟩), .pointer (some ⟨w.heap.size, 0, none⟩), .int .u64 150] 143)).alloc (.cells #[.pointer (some ⟨6, 110, none⟩), .pointer (some ⟨w.heap.size, 0, none⟩), .int .u64 150] 143)).alloc (.cells #[.int .i64 c, .int .i64 li, .int .i64 co] 98))
    (by rw [World.cell?_alloc_at _ _ _ _ (by simp)]; rfl)
    (by rw [World.cell?_alloc_at _ _ _ _ (by simp)]; rfl)
    (by rw [World.cell?_alloc_at _ _ _ _ (by simp)]; rfl)
    (hT.next hB4)
  clear hB4 hT
  go_enter Tryz.func49, Tryz.ntmps49
  go_wp2
  refine wp_loop_rounds 1 ?_
  rw [rounds_succ]
  go_wp2
  go_ret
  exact ⟨rfl, rfl⟩
end Go.Proofs.YtpkjhlcolgoknaaGreatDoor.Par

namespace Go.Proofs.YtpkjhlcolgoknaaGreatDoor.Par
set_option linter.unusedVariables false
set_option maxRecDepth 100000
open Go.RowKit Go.Shelf
open Go.Proofs.YtpkjhlcolgoknaaGreatDoor.Ven (Seat Pole Ven Box venV venZ VenOwn NormTo normU IsOrder mayB)
open Go.Proofs.YtpkjhlcolgoknaaGreatDoor.Flt (Et I64 Chain)

theorem Et.next {w w' : World} (t : Et w) (h : Below w.heap.size w w') : Et w' := t.below h t.pos
set_option maxHeartbeats 1000000 in
theorem ask_nil (w : World) : Calls Tryz.prog 26 #[.nilIface] w fun e w' => e = .returned (.tuple #[.int .i64 0, .agg #[.int .i64 0, .int .i64 0]]) ∧ Below w.heap.size w w' := by
  go_enter Tryz.func26, Tryz.ntmps26
  go_wp2_with fail
  refine (as_nil _ _).mono ?_
  rintro e w1 ⟨rfl, rfl⟩
  go_wp2_with fail
  refine bodyPost_ret (v := .tuple #[.int .i64 0, .agg #[.int .i64 0, .int .i64 0]]) (by simp [results, Tryz.results26, go_sem]) rfl ?_
  refine ⟨rfl, ?_⟩
  exact ((Below.refl _ w).alloc (Nat.le_refl _) _).alloc (by simp) _
set_option maxHeartbeats 1000000 in
theorem ask_wrong (c li co : Int) (w : World) (hE : Et w) : Calls Tryz.prog 26 #[wrongV c li co] w fun e w' => e = .returned (.tuple #[.int .i64 c, .agg #[.int .i64 li, .int .i64 co]]) ∧ Below w.heap.size w w' := by
  have hB : Below w.heap.size w ((w.alloc (.cells #[.int .i64 0, .int .i64 0] 27)).alloc (.cells #[.int .i64 0, .int .i64 0, .int .i64 0] 98)) := ((Below.refl _ w).alloc (Nat.le_refl _) _).alloc (by simp) _
  have hT : Box ((w.alloc (.cells #[.int .i64 0, .int .i64 0] 27)).alloc (.cells #[.int .i64 0, .int .i64 0, .int .i64 0] 98)) (w.heap.size + 1) 98 #[.int .i64 0, .int .i64 0, .int .i64 0] := by
    have := Box.fresh (w.alloc (.cells #[.int .i64 0, .int .i64 0] 27)) 98 #[.int .i64 0, .int .i64 0, .int .i64 0]
    rw [World.size_alloc] at this; exact this
  have hS : Box ((w.alloc (.cells #[.int .i64 0, .int .i64 0] 27)).alloc (.cells #[.int .i64 0, .int .i64 0, .int .i64 0] 98)) w.heap.size 27 #[.int .i64 0, .int .i64 0] := (Box.fresh w _ _).next ((Below.refl _ _).alloc (Nat.le_refl _) _)
  have hcall := as_wrong c li co (w.heap.size + 1) _ _ _ _ (Et.next hE hB) hT
  have HB : Hid (Below w.heap.size w ((w.alloc (.cells #[.int .i64 0, .int .i64 0] 27)).alloc (.cells #[.int .i64 0, .int .i64 0, .int .i64 0] 98))) := hB
  clear hE hB
  go_enter Tryz.func26, Tryz.ntmps26
  go_wp2_with fail
  refine hcall.mono ?_
  rintro e w1 ⟨rfl, hw1⟩
  clear hcall
  generalize hW : (w.alloc (.cells #[.int .i64 0, .int .i64 0] 27)).alloc (.cells #[.int .i64 0, .int .i64 0, .int .i64 0] 98) = W at hw1 hT hS HB
  have hB4 := ((((Below.refl _ W).alloc (Nat.le_refl _) (.cells #[.pointer (some ⟨w.heap.size + 1, 0, none⟩)] 110)).alloc (by simp) (.cells #[.pointer (some ⟨6, 110, none⟩), .pointer (some ⟨W.heap.size, 0, none⟩), .int .u64 150] 143)).alloc (by simp; omega) (.cells #[.pointer (some ⟨6, 110, none⟩), .pointer (some ⟨W.heap.size, 0, none⟩), .int .u64 150] 143)).alloc (by simp; omega) (.cells #[.int .i64 c, .int .i64 li, .int .i64 co] 98)
  have t4 := hT.next hB4
  have s4 := hS.next hB4
  have hB5 := HB.out.trans (hB4.mono HB.out.size)
  have t5 := ((t4.set 0 (.int .i64 c)).set 1 (.int .i64 li)).set 2 (.int .i64 co)
  have s5 := ((s4.other (w.heap.size + 1) 0 (by omega) (.int .i64 c)).other (w.heap.size + 1) 1 (by omega) (.int .i64 li)).other (w.heap.size + 1) 2 (by omega) (.int .i64 co)
  have b5 := Below.setCell (Below.setCell (Below.setCell hB5 (p := ⟨w.heap.size + 1, 0, none⟩) (by simp) (.int .i64 c)) (p := ⟨w.heap.size + 1, 1, none⟩) (by simp) (.int .i64 li)) (p := ⟨w.heap.size + 1, 2, none⟩) (by simp) (.int .i64 co)
  rw [← hw1] at t5 s5 b5
  have HB5 : Hid (Below w.heap.size w w1) := b5
  have c0 : w1.cell? ⟨w.heap.size + 1, 0, none⟩ = some (.int .i64 c) := t5.cell 0 _ rfl
  have c1 : w1.cell? ⟨w.heap.size + 1, 1, none⟩ = some (.int .i64 li) := t5.cell 1 _ rfl
  have c2 : w1.cell? ⟨w.heap.size + 1, 2, none⟩ = some (.int .i64 co) := t5.cell 2 _ rfl
  have d0 := s5.cell 0 _ rfl
  have d1 := s5.cell 1 _ rfl
  have f0 := s5.frozen 0
  have f1 := s5.frozen 1
  have dl := s5.lt
  have cl := t5.lt
  clear hw1 hW hT hS hB4 t4 s4 hB5 t5 s5 b5 HB
  go_wp2_with fail
  go_region
  all_goals
    go_wp2_with fail
    refine bodyPost_ret (v := .tuple #[.int .i64 c, .agg #[.int .i64 li, .int .i64 co]]) (by simp [results, Tryz.results26, go_sem, d0, d1]) rfl ?_
    refine ⟨rfl, ?_⟩
    exact (Below.setCell (Below.setCell HB5.out (by simp) _) (by simp) _).drew
/-- A code and its place: of a venue, none. -/
def codeOf : Except (Int × Int × Int) Ven → Int × Int × Int
  | .error p => p
  | .ok _ => (0, 0, 0)
set_option maxHeartbeats 1000000 in
theorem check_of (l : List UInt8) (w : World) (err : Value) (c li co : Int)
    (hr : Calls Tryz.prog 25 #[.string ⟨l.toArray⟩] (w.alloc (.cells #[.int .i64 0, .int .i64 0] 27)) fun e w' => (∃ b1 m1 d1 gap rad b2 m2 d2 b3 m3 d3, e = .returned (.tuple #[venV b1 m1 d1 gap rad b2 m2 d2 b3 m3 d3, err])) ∧ Below (w.alloc (.cells #[.int .i64 0, .int .i64 0] 27)).heap.size (w.alloc (.cells #[.int .i64 0, .int .i64 0] 27)) w')
    (ha : ∀ W, Below w.heap.size w W → Calls Tryz.prog 26 #[err] W fun e w' => e = .returned (.tuple #[.int .i64 c, .agg #[.int .i64 li, .int .i64 co]]) ∧ Below W.heap.size W w') :
    Calls Tryz.prog 13 #[.string ⟨l.toArray⟩] w fun e w' => e = .returned (.tuple #[.int .i64 c, .agg #[.int .i64 li, .int .i64 co]]) ∧ Below w.heap.size w w' := by
  have hS := Box.fresh w 27 #[.int .i64 0, .int .i64 0]
  have HB : Hid (Below w.heap.size w (w.alloc (.cells #[.int .i64 0, .int .i64 0] 27))) := (Below.refl _ w).alloc (Nat.le_refl _) _
  have HA : Hid (∀ W, Below w.heap.size w W → Calls Tryz.prog 26 #[err] W fun e w' => e = .returned (.tuple #[.int .i64 c, .agg #[.int .i64 li, .int .i64 co]]) ∧ Below W.heap.size W w') := ha
  clear ha
  go_enter Tryz.func13, Tryz.ntmps13
  go_wp2_with fail
  refine hr.mono ?_
  rintro e w1 ⟨⟨b1, m1, d1, gap, rad, b2, m2, d2, b3, m3, d3, rfl⟩, hb1⟩
  have HS1 : Hid (Box w1 w.heap.size 27 #[.int .i64 0, .int .i64 0]) := hS.next hb1
  have HB1 : Hid (Below w.heap.size w w1) := HB.out.trans (hb1.mono HB.out.size)
  clear hr hS HB hb1
  go_wp2_with fail
  have hBA : Below w1.heap.size w1 (w1.alloc (.cells #[.slice b1 m1 d1, .int .i64 gap, .int .i64 rad, .slice b2 m2 d2, .slice b3 m3 d3] 33)) := (Below.refl _ w1).alloc (Nat.le_refl _) _
  have hB2 := HB1.out.trans (hBA.mono HB1.out.size)
  refine (HA.out _ hB2).mono ?_
  rintro e w2 ⟨rfl, hb2⟩
  have s2 := (HS1.out.next hBA).next hb2
  have d0 := s2.cell 0 _ rfl
  have d1 := s2.cell 1 _ rfl
  have f0 := s2.frozen 0
  have f1 := s2.frozen 1
  have dl := s2.lt
  have HB2 : Hid (Below w.heap.size w w2) := hB2.trans (hb2.mono hB2.size)
  clear s2 hb2 hB2 hBA HS1 HB1
  go_wp2_with fail
  refine bodyPost_ret (v := .tuple #[.int .i64 c, .agg #[.int .i64 li, .int .i64 co]]) (by simp [results, Tryz.results13, go_sem, d0, d1]) rfl ?_
  refine ⟨rfl, ?_⟩
  exact Below.setCell (Below.setCell HB2.out (by simp) _) (by simp) _
theorem check_any (l : List UInt8) (w : World) (hR : Tok.Rng w) (hE : Et w) :
    Calls Tryz.prog 13 #[.string ⟨l.toArray⟩] w fun e w' => e = .returned (.tuple #[.int .i64 (codeOf (readL l)).1, .agg #[.int .i64 (codeOf (readL l)).2.1, .int .i64 (codeOf (readL l)).2.2]]) ∧ Below w.heap.size w w' := by
  have hB : Below w.heap.size w (w.alloc (.cells #[.int .i64 0, .int .i64 0] 27)) := (Below.refl _ w).alloc (Nat.le_refl _) _
  have hrd := read_any l _ (hR.next hB)
  cases hl : readL l with
  | error p =>
    rw [hl] at hrd
    refine check_of l w (wrongV p.1 p.2.1 p.2.2) p.1 p.2.1 p.2.2 (hrd.mono ?_) (fun W hW => ask_wrong _ _ _ W (Et.next hE hW))
    rintro e w' ⟨rfl, hb⟩
    exact ⟨⟨_, _, _, _, _, _, _, _, _, _, _, rfl⟩, hb⟩
  | ok V =>
    rw [hl] at hrd
    refine check_of l w .nilIface 0 0 0 (hrd.mono ?_) (fun W hW => ask_nil W)
    rintro e w' ⟨⟨li, co, r, hN, hr⟩, hb⟩
    obtain ⟨ord, ho, rfl, hm⟩ := norm_good (readL_good hl) hN
    obtain ⟨b1, m1, d1, b2, m2, d2, b3, m3, d3, rfl, hv⟩ := hr
    exact ⟨⟨_, _, _, _, _, _, _, _, _, _, _, rfl⟩, hb⟩
end Go.Proofs.YtpkjhlcolgoknaaGreatDoor.Par

namespace Go.Proofs.YtpkjhlcolgoknaaGreatDoor.Par
set_option linter.unusedVariables false
set_option maxRecDepth 100000
open Go.RowKit Go.Shelf
open Go.Proofs.YtpkjhlcolgoknaaGreatDoor.Ven (Seat Pole Ven Box venV venZ VenOwn NormTo normU IsOrder mayB)
open Go.Proofs.YtpkjhlcolgoknaaGreatDoor.Flt (Et I64 Chain)

theorem toFault_none (li co : Int) (w : World) : Calls Tryz.prog 27 #[.int .i64 0, .agg #[.int .i64 li, .int .i64 co]] w fun e w' => e = .returned .nilIface ∧ Below w.heap.size w w' := by
  go_enter Tryz.func27, Tryz.ntmps27
  go_wp2_with fail
  refine (Flt.New_none 0 li co (by omega) _).mono ?_
  rintro e w1 ⟨rfl, rfl⟩
  go_wp2
  go_ret
  exact ⟨rfl, (Below.refl _ w).alloc (Nat.le_refl _) _⟩
/-- An error that is a fault of its own. -/
def FaultAt (c li co : Int) (v : Value) (W : World) : Prop := ∃ b, v = .iface 80 (.pointer (some ⟨b, 0, none⟩)) ∧ Box W b 83 #[.int .i64 c, .int .i64 li, .int .i64 co, .nilIface]
theorem FaultAt.next {c li co : Int} {v : Value} {W W' : World} (h : FaultAt c li co v W) (hb : Below W.heap.size W W') : FaultAt c li co v W' := by
  obtain ⟨b, hv, hB⟩ := h
  exact ⟨b, hv, hB.next hb⟩
theorem FaultAt.set {c li co : Int} {v : Value} {W : World} (h : FaultAt c li co v W) {g : Nat} {e : TypeId} {cs : Array Value} (hX : Box W g e cs) (he : 83 ≠ e) (i : Nat) (u : Value) : FaultAt c li co v (W.setCell ⟨g, i, none⟩ u) := by
  obtain ⟨b, hv, hB⟩ := h
  refine ⟨b, hv, hB.other g i (fun hc => ?_) u⟩
  subst hc
  unfold Box at hB hX
  rw [hB] at hX
  exact he (by injection hX with hX; injection hX)
theorem FaultAt.chain {c li co : Int} {v : Value} {W : World} (h : FaultAt c li co v W) (ic : I64 c) (il : I64 li) (io : I64 co) : Chain W v [(c, li, co)] := by
  obtain ⟨b, rfl, hB⟩ := h
  exact ⟨[⟨(b, c, li, co), hB.lt, hB.cell 0 _ rfl, hB.cell 1 _ rfl, hB.cell 2 _ rfl, ic, il, io⟩], ⟨rfl, .nilIface, hB.cell 3 _ rfl, Nat.zero_le _, rfl⟩, rfl⟩
theorem toFault_some (c li co : Int) (hc : 0 < c) (w : World) : Calls Tryz.prog 27 #[.int .i64 c, .agg #[.int .i64 li, .int .i64 co]] w fun e w' => ∃ v, e = .returned v ∧ FaultAt c (max li 0) (max co 0) v w' ∧ Below w.heap.size w w' := by
  go_enter Tryz.func27, Tryz.ntmps27
  go_wp2_with fail
  refine (Flt.New_some c li co hc _).mono ?_
  rintro e w1 ⟨rfl, rfl⟩
  go_wp2
  go_ret
  refine ⟨_, rfl, ⟨_, rfl, ?_⟩, ?_⟩
  · have h := Box.fresh (w.alloc (.cells #[.int .i64 li, .int .i64 co] 27)) 83 #[.int .i64 c, .int .i64 (max li 0), .int .i64 (max co 0), .nilIface]
    rw [World.size_alloc] at h
    exact h
  · exact ((Below.refl _ w).alloc (Nat.le_refl _) _).alloc (by simp) _
set_option maxHeartbeats 4000000 in
theorem venue_of (l : List UInt8) (w : World) (err : Value) (c li co : Int) (G : Value → World → Prop) (E : Value → World → Prop)
    (hE0 : ∀ v W W', E v W → Below W.heap.size W W' → E v W') (hE1 : ∀ v W g cs i u, E v W → Box W g 33 cs → E v (W.setCell ⟨g, i, none⟩ u))
    (hr : Calls Tryz.prog 25 #[.string ⟨l.toArray⟩] (w.alloc (.cells #[.slice none 0 0, .int .i64 0, .int .i64 0, .slice none 0 0, .slice none 0 0] 33)) fun e w' => (∃ b1 m1 d1 gap rad b2 m2 d2 b3 m3 d3, e = .returned (.tuple #[venV b1 m1 d1 gap rad b2 m2 d2 b3 m3 d3, err]) ∧ E (venV b1 m1 d1 gap rad b2 m2 d2 b3 m3 d3) w') ∧ Below (w.alloc (.cells #[.slice none 0 0, .int .i64 0, .int .i64 0, .slice none 0 0, .slice none 0 0] 33)).heap.size (w.alloc (.cells #[.slice none 0 0, .int .i64 0, .int .i64 0, .slice none 0 0, .slice none 0 0] 33)) w')
    (ha : ∀ W, Below w.heap.size w W → Calls Tryz.prog 26 #[err] W fun e w' => e = .returned (.tuple #[.int .i64 c, .agg #[.int .i64 li, .int .i64 co]]) ∧ Below W.heap.size W w')
    (hf : ∀ W, Below w.heap.size w W → Calls Tryz.prog 27 #[.int .i64 c, .agg #[.int .i64 li, .int .i64 co]] W fun e w' => ∃ v, e = .returned v ∧ G v w' ∧ Below W.heap.size W w')
    (hG0 : ∀ v W W', G v W → Below W.heap.size W W' → G v W') (hG1 : ∀ v W g cs i u, G v W → Box W g 33 cs → G v (W.setCell ⟨g, i, none⟩ u)) :
    Calls Tryz.prog 14 #[.string ⟨l.toArray⟩] w fun e w' => (∃ b1 m1 d1 gap rad b2 m2 d2 b3 m3 d3 v, e = .returned (.tuple #[venV b1 m1 d1 gap rad b2 m2 d2 b3 m3 d3, v]) ∧ E (venV b1 m1 d1 gap rad b2 m2 d2 b3 m3 d3) w' ∧ G v w') ∧ Below w.heap.size w w' := by
  have hS := Box.fresh w 33 #[.slice none 0 0, .int .i64 0, .int .i64 0, .slice none 0 0, .slice none 0 0]
  have HB : Hid (Below w.heap.size w (w.alloc (.cells #[.slice none 0 0, .int .i64 0, .int .i64 0, .slice none 0 0, .slice none 0 0] 33))) := (Below.refl _ w).alloc (Nat.le_refl _) _
  have HA : Hid (∀ W, Below w.heap.size w W → Calls Tryz.prog 26 #[err] W fun e w' => e = .returned (.tuple #[.int .i64 c, .agg #[.int .i64 li, .int .i64 co]]) ∧ Below W.heap.size W w') := ha
  have HF : Hid (∀ W, Below w.heap.size w W → Calls Tryz.prog 27 #[.int .i64 c, .agg #[.int .i64 li, .int .i64 co]] W fun e w' => ∃ v, e = .returned v ∧ G v w' ∧ Below W.heap.size W w') := hf
  have HE0 : Hid (∀ v W W', E v W → Below W.heap.size W W' → E v W') := hE0
  have HE1 : Hid (∀ v W g cs i u, E v W → Box W g 33 cs → E v (W.setCell ⟨g, i, none⟩ u)) := hE1
  have HG0 : Hid (∀ v W W', G v W → Below W.heap.size W W' → G v W') := hG0
  have HG1 : Hid (∀ v W g cs i u, G v W → Box W g 33 cs → G v (W.setCell ⟨g, i, none⟩ u)) := hG1
  clear ha hf hE0 hE1 hG0 hG1
  go_enter Tryz.func14, Tryz.ntmps14
  go_wp2_with fail
  refine hr.mono ?_
  rintro e w1 ⟨⟨b1, m1, d1, gap, rad, b2, m2, d2, b3, m3, d3, rfl, hEv⟩, hb1⟩
  have HS1 : Hid (Box w1 w.heap.size 33 #[.slice none 0 0, .int .i64 0, .int .i64 0, .slice none 0 0, .slice none 0 0]) := hS.next hb1
  have HB1 : Hid (Below w.heap.size w w1) := HB.out.trans (hb1.mono HB.out.size)
  have HEV : Hid (E (venV b1 m1 d1 gap rad b2 m2 d2 b3 m3 d3) w1) := hEv
  clear hr hS HB hb1 hEv
  go_wp2_with fail
  have hBA : Below w1.heap.size w1 (w1.alloc (.cells #[.slice b1 m1 d1, .int .i64 gap, .int .i64 rad, .slice b2 m2 d2, .slice b3 m3 d3] 33)) := (Below.refl _ w1).alloc (Nat.le_refl _) _
  have HW : Hid (∀ W, Below w1.heap.size w1 W → Below w.heap.size w W) := fun W hW => HB1.out.trans (hW.mono HB1.out.size)
  have hv1 := Box.fresh w1 33 #[.slice b1 m1 d1, .int .i64 gap, .int .i64 rad, .slice b2 m2 d2, .slice b3 m3 d3]
  have HS2 : Hid (Box (w1.alloc (.cells #[.slice b1 m1 d1, .int .i64 gap, .int .i64 rad, .slice b2 m2 d2, .slice b3 m3 d3] 33)) w.heap.size 33 #[.slice none 0 0, .int .i64 0, .int .i64 0, .slice none 0 0, .slice none 0 0]) := HS1.out.next hBA
  have HEV2 : Hid (E (venV b1 m1 d1 gap rad b2 m2 d2 b3 m3 d3) (w1.alloc (.cells #[.slice b1 m1 d1, .int .i64 gap, .int .i64 rad, .slice b2 m2 d2, .slice b3 m3 d3] 33))) := HE0.out _ _ _ HEV.out hBA
  have HB2 : Hid (Below w.heap.size w (w1.alloc (.cells #[.slice b1 m1 d1, .int .i64 gap, .int .i64 rad, .slice b2 m2 d2, .slice b3 m3 d3] 33))) := HB1.out.trans (hBA.mono HB1.out.size)
  clear HS1 HEV HW hBA
  generalize w1.alloc (.cells #[.slice b1 m1 d1, .int .i64 gap, .int .i64 rad, .slice b2 m2 d2, .slice b3 m3 d3] 33) = W at hv1 HS2 HEV2 HB2 ⊢
  generalize w1.heap.size = vb at hv1 ⊢
  have HV2 : Hid (Box W vb 33 #[.slice b1 m1 d1, .int .i64 gap, .int .i64 rad, .slice b2 m2 d2, .slice b3 m3 d3]) := hv1
  have y0 := hv1.cell 0 _ rfl
  have y1 := hv1.cell 1 _ rfl
  have y2 := hv1.cell 2 _ rfl
  have y3 := hv1.cell 3 _ rfl
  have y4 := hv1.cell 4 _ rfl
  have yl := hv1.lt
  clear hv1
  have HD : Hid (Below W.heap.size W W.drew) := (Below.refl _ W).drew
  go_region_with (first
    | (go_at_call 26; refine (HA.out _ (HB2.out.drew)).mono ?_; rintro e w3 ⟨rfl, hb3⟩; have HB3 : Hid (Below w.heap.size w w3) := (HB2.out.drew).trans (hb3.mono (HB2.out.drew).size); have HV3 : Hid (Box w3 vb 33 #[.slice b1 m1 d1, .int .i64 gap, .int .i64 rad, .slice b2 m2 d2, .slice b3 m3 d3]) := (HV2.out.next HD.out).next hb3; have HS3 : Hid (Box w3 w.heap.size 33 #[.slice none 0 0, .int .i64 0, .int .i64 0, .slice none 0 0, .slice none 0 0]) := (HS2.out.next HD.out).next hb3; have HE3 : Hid (E (venV b1 m1 d1 gap rad b2 m2 d2 b3 m3 d3) w3) := HE0.out _ _ _ (HE0.out _ _ _ HEV2.out HD.out) hb3; have z := HV3.out; have y0 := z.cell 0 _ rfl; have y1 := z.cell 1 _ rfl; have y2 := z.cell 2 _ rfl; have y3 := z.cell 3 _ rfl; have y4 := z.cell 4 _ rfl; have yl := z.lt; clear z hb3)
    | (go_at_call 27; refine (HF.out _ HB3.out).mono ?_; rintro e w4 ⟨v4, rfl, hg4, hb4⟩; have HB4 : Hid (Below w.heap.size w w4) := HB3.out.trans (hb4.mono HB3.out.size); have HS4 : Hid (Box w4 w.heap.size 33 #[.slice none 0 0, .int .i64 0, .int .i64 0, .slice none 0 0, .slice none 0 0]) := HS3.out.next hb4; have HE4 : Hid (E (venV b1 m1 d1 gap rad b2 m2 d2 b3 m3 d3) w4) := HE0.out _ _ _ HE3.out hb4; have HG4 : Hid (G v4 w4) := hg4; have z := HV3.out.next hb4; have y0 := z.cell 0 _ rfl; have y1 := z.cell 1 _ rfl; have y2 := z.cell 2 _ rfl; have y3 := z.cell 3 _ rfl; have y4 := z.cell 4 _ rfl; have yl := z.lt; have q := HS4.out; have x0 := q.cell 0 _ rfl; have f0 := q.frozen 0; have x1 := q.cell 1 _ rfl; have f1 := q.frozen 1; have x2 := q.cell 2 _ rfl; have f2 := q.frozen 2; have x3 := q.cell 3 _ rfl; have f3 := q.frozen 3; have x4 := q.cell 4 _ rfl; have f4 := q.frozen 4; have xl := q.lt; clear z q hb4 hg4))
  all_goals
    go_wp2_with fail
    refine bodyPost_ret (v := .tuple #[venV b1 m1 d1 gap rad b2 m2 d2 b3 m3 d3, v4]) (by simp [results, Tryz.results14, go_sem, x0, x1, x2, x3, x4]) rfl ?_
    have k0 := HS4.out
    have k1 := k0.set 0 (.slice b1 m1 d1)
    have k2 := k1.set 1 (.int .i64 gap)
    have k3 := k2.set 2 (.int .i64 rad)
    have k4 := k3.set 3 (.slice b2 m2 d2)
    refine ⟨⟨b1, m1, d1, gap, rad, b2, m2, d2, b3, m3, d3, v4, rfl, ?_, ?_⟩, ?_⟩
    · exact HE1.out _ _ _ _ 4 _ (HE1.out _ _ _ _ 3 _ (HE1.out _ _ _ _ 2 _ (HE1.out _ _ _ _ 1 _ (HE1.out _ _ _ _ 0 _ HE4.out k0) k1) k2) k3) k4
    · exact HG1.out _ _ _ _ 4 _ (HG1.out _ _ _ _ 3 _ (HG1.out _ _ _ _ 2 _ (HG1.out _ _ _ _ 1 _ (HG1.out _ _ _ _ 0 _ HG4.out k0) k1) k2) k3) k4
    · exact Below.setCell (Below.setCell (Below.setCell (Below.setCell (Below.setCell HB4.out (by simp) _) (by simp) _) (by simp) _) (by simp) _) (by simp) _
/-- What Venue hands back. -/
def VenTo (w : World) (o : Except (Int × Int × Int) Ven) (e : Ending) (w' : World) : Prop :=
  (match o with
  | .error p => ∃ v, e = .returned (.tuple #[venZ, v]) ∧ FaultAt p.1 (max p.2.1 0) (max p.2.2 0) v w'
  | .ok V => ∃ ord, IsOrder V.seats ord ∧ mayB (normU V ord) = true ∧ ∃ b1 m1 d1 b2 m2 d2 b3 m3 d3, e = .returned (.tuple #[venV b1 m1 d1 V.gap V.radius b2 m2 d2 b3 m3 d3, .nilIface]) ∧ VenOwn w' b1 m1 d1 b2 m2 d2 b3 m3 d3 (normU V ord)) ∧ Below w.heap.size w w'
theorem venue_any (l : List UInt8) (w : World) (hR : Tok.Rng w) (hE : Et w) (hp : ∀ p, readL l = .error p → 0 < p.1) :
    Calls Tryz.prog 14 #[.string ⟨l.toArray⟩] w fun e w' => VenTo w (readL l) e w' := by
  have hB : Below w.heap.size w (w.alloc (.cells #[.slice none 0 0, .int .i64 0, .int .i64 0, .slice none 0 0, .slice none 0 0] 33)) := (Below.refl _ w).alloc (Nat.le_refl _) _
  have hrd := read_any l _ (hR.next hB)
  cases hl : readL l with
  | error p =>
    rw [hl] at hrd
    have hp0 := hp p hl
    refine (venue_of l w (wrongV p.1 p.2.1 p.2.2) p.1 p.2.1 p.2.2 (fun v W => FaultAt p.1 (max p.2.1 0) (max p.2.2 0) v W) (fun v _ => v = venZ) (fun _ _ _ h _ => h) (fun _ _ _ _ _ _ h _ => h) (hrd.mono ?_) (fun W hW => ask_wrong _ _ _ W (Et.next hE hW)) (fun W hW => toFault_some _ _ _ hp0 W) (fun _ _ _ h hb => h.next hb) (fun _ _ _ _ i u h hX => h.set hX (by decide) i u)).mono ?_
    · rintro e w' ⟨rfl, hb⟩
      exact ⟨⟨_, _, _, _, _, _, _, _, _, _, _, rfl, rfl⟩, hb⟩
    · rintro e w' ⟨⟨b1, m1, d1, gap, rad, b2, m2, d2, b3, m3, d3, v, rfl, hz, hf⟩, hb⟩
      exact ⟨⟨v, by rw [hz], hf⟩, hb⟩
  | ok V =>
    rw [hl] at hrd
    refine (venue_of l w .nilIface 0 0 0 (fun v _ => v = .nilIface) (fun v W => ∃ ord, IsOrder V.seats ord ∧ mayB (normU V ord) = true ∧ ∃ b1 m1 d1 b2 m2 d2 b3 m3 d3, v = venV b1 m1 d1 V.gap V.radius b2 m2 d2 b3 m3 d3 ∧ VenOwn W b1 m1 d1 b2 m2 d2 b3 m3 d3 (normU V ord)) ?_ ?_ (hrd.mono ?_) (fun W hW => ask_nil W) (fun W hW => (toFault_none 0 0 W).mono fun e w' ⟨he, hb⟩ => ⟨_, he, rfl, hb⟩) (fun _ _ _ h _ => h) (fun _ _ _ _ _ _ h _ => h)).mono ?_
    · rintro v W W' ⟨ord, ho, hm, b1, m1, d1, b2, m2, d2, b3, m3, d3, hv, hU⟩ hb
      exact ⟨ord, ho, hm, b1, m1, d1, b2, m2, d2, b3, m3, d3, hv, hU.next hb⟩
    · rintro v W g cs i u ⟨ord, ho, hm, b1, m1, d1, b2, m2, d2, b3, m3, d3, hv, hU⟩ hX
      exact ⟨ord, ho, hm, b1, m1, d1, b2, m2, d2, b3, m3, d3, hv, hU.set hX (by decide) (by decide) (by decide) i u⟩
    · rintro e w' ⟨⟨li, co, r, hN, hr⟩, hb⟩
      obtain ⟨ord, ho, rfl, hm⟩ := norm_good (readL_good hl) hN
      obtain ⟨b1, m1, d1, b2, m2, d2, b3, m3, d3, rfl, hv⟩ := hr
      exact ⟨⟨_, _, _, _, _, _, _, _, _, _, _, rfl, ord, ho, hm, b1, m1, d1, b2, m2, d2, b3, m3, d3, rfl, hv⟩, hb⟩
    · rintro e w' ⟨⟨b1, m1, d1, gap, rad, b2, m2, d2, b3, m3, d3, v, rfl, ⟨ord, ho, hm, a1, n1, c1, a2, n2, c2, a3, n3, c3, hv, hU⟩, hf⟩, hb⟩
      subst hf
      exact ⟨⟨ord, ho, hm, a1, n1, c1, a2, n2, c2, a3, n3, c3, by rw [hv], hU⟩, hb⟩
end Go.Proofs.YtpkjhlcolgoknaaGreatDoor.Par

namespace Go.Proofs.YtpkjhlcolgoknaaGreatDoor.Par
set_option linter.unusedVariables false
set_option maxRecDepth 100000
open Go.Proofs.YtpkjhlcolgoknaaGreatDoor.Ven (Seat Pole Ven)

theorem read_t1 : readL [103, 97, 112, 32, 50, 10, 119, 104, 101, 101, 108, 32, 49, 32, 51, 32, 52, 32, 35, 32, 104, 101, 114, 101, 10, 115, 101, 97, 116, 32, 48, 32, 53, 32, 54, 10, 107, 105, 108, 108, 32, 49, 32, 51, 10, 112, 111, 108, 101, 32, 48, 32, 48, 32, 57, 10] = .ok ⟨[⟨1, 3, 4, 1⟩, ⟨0, 5, 6, 0⟩], 2, 0, [0], [⟨0, 0, 9⟩]⟩ := by kernel_rfl
theorem read_t2 : readL [] = .error (2, 1, 1) := by kernel_rfl
theorem read_t3 : readL [103, 97, 112, 32, 49, 10, 115, 101, 97, 116, 32, 48, 32, 48, 32, 48, 10, 115, 101, 97, 116, 32, 48, 32, 48, 32, 53, 10] = .error (2, 3, 1) := by kernel_rfl
theorem read_t4 : readL [103, 97, 112, 32, 49, 10, 115, 101, 97, 116, 32, 48, 32, 48, 32, 48, 10, 107, 105, 108, 108, 32, 48, 32, 57] = .error (2, 3, 6) := by kernel_rfl
theorem read_t5 : readL [103, 97, 112, 32, 48, 10] = .error (2, 1, 5) := by kernel_rfl
theorem read_t6 : readL [115, 101, 97, 116, 32, 49, 32, 50, 10] = .error (2, 1, 9) := by kernel_rfl
theorem read_t7 : readL [120] = .error (2, 1, 1) := by kernel_rfl
end Go.Proofs.YtpkjhlcolgoknaaGreatDoor.Par

namespace Go.Proofs.YtpkjhlcolgoknaaGreatDoor.Par
set_option linter.unusedVariables false
set_option maxRecDepth 100000
open Go.RowKit Go.Shelf
open Go.Proofs.YtpkjhlcolgoknaaGreatDoor.Ven (Seat Pole Ven Box venV venZ VenAt VenOwn NormTo normU IsOrder mayB order_unique rising_order BelowOf wp_region_quiet_below mixed SeatAt below_alloc ltS)
open Go.Proofs.YtpkjhlcolgoknaaGreatDoor.Flt (Et I64 Chain)

/-- What the law leans on in memory: the listed variables that are read. -/
structure Has0 (w : World) : Prop where
  rng : Tok.Rng w
  et : Et w
theorem Has0.next {w w' : World} (h : Has0 w) (hb : Below w.heap.size w w') : Has0 w' := ⟨h.rng.next hb, Et.next h.et hb⟩
def V1 : Ven := ⟨[⟨1, 3, 4, 1⟩, ⟨0, 5, 6, 0⟩], 2, 0, [0], [⟨0, 0, 9⟩]⟩
def U1 : Ven := ⟨[⟨0, 5, 6, 0⟩, ⟨1, 3, 4, 1⟩], 2, 0, [1], [⟨0, 0, 9⟩]⟩
theorem norm_V1 {ord : List Nat} (h : IsOrder V1.seats ord) : normU V1 ord = U1 := by
  have hr : ([1, 0] : List Nat).Pairwise fun i j => ltS V1.seats[i]! V1.seats[j]! = true := by decide
  have hp : ([1, 0] : List Nat).Perm (List.range V1.seats.length) := List.Perm.swap 0 1 []
  rw [← order_unique (rising_order hp hr) h hr]
  decide
theorem told_v1 (w : World) (hL : Has0 w) : Calls Tryz.prog 14 #[.string ⟨[103, 97, 112, 32, 50, 10, 119, 104, 101, 101, 108, 32, 49, 32, 51, 32, 52, 32, 35, 32, 104, 101, 114, 101, 10, 115, 101, 97, 116, 32, 48, 32, 53, 32, 54, 10, 107, 105, 108, 108, 32, 49, 32, 51, 10, 112, 111, 108, 101, 32, 48, 32, 48, 32, 57, 10].toArray⟩] w fun e w' => ∃ sb so sc kb ko kc pa pc, e = .returned (.tuple #[venV (some ⟨sb, so, none⟩) 2 sc 2 0 (some ⟨kb, ko, none⟩) 1 kc pa 1 pc, .nilIface]) ∧ VenAt w' (some ⟨sb, so, none⟩) 2 sc (some ⟨kb, ko, none⟩) 1 kc pa 1 pc U1 ∧ Below w.heap.size w w' := by
  refine (venue_any [103, 97, 112, 32, 50, 10, 119, 104, 101, 101, 108, 32, 49, 32, 51, 32, 52, 32, 35, 32, 104, 101, 114, 101, 10, 115, 101, 97, 116, 32, 48, 32, 53, 32, 54, 10, 107, 105, 108, 108, 32, 49, 32, 51, 10, 112, 111, 108, 101, 32, 48, 32, 48, 32, 57, 10] w hL.rng hL.et (fun p hp => by rw [read_t1] at hp; cases hp)).mono ?_
  rintro e w' ⟨hv, hb⟩
  rw [read_t1] at hv
  obtain ⟨ord, ho, _, b1, m1, d1, b2, m2, d2, b3, m3, d3, rfl, hU⟩ := hv
  have hn := norm_V1 ho
  unfold V1 at hn
  rw [hn] at hU
  have hA := hU.at
  have e1 : m1 = 2 := hA.s.len
  have e2 : m2 = 1 := hA.k.len
  have e3 : m3 = 1 := hA.p.len
  subst e1 e2 e3
  rcases hA.s with ⟨_, h⟩ | ⟨sb, so, sc, he, _⟩
  · cases h
  rcases hA.k with ⟨_, h⟩ | ⟨kb, ko, kc, hk, _⟩
  · cases h
  injection he with he1 _ _
  injection hk with hk1 _ _
  subst he1 hk1
  exact ⟨sb, so, d1, kb, ko, d2, b3, d3, rfl, hA, hb⟩
theorem told_c2 (w : World) (hL : Has0 w) : Calls Tryz.prog 13 #[.string ⟨[].toArray⟩] w fun e w' => e = .returned (.tuple #[.int .i64 2, .agg #[.int .i64 1, .int .i64 1]]) ∧ Below w.heap.size w w' := by
  have h := check_any [] w hL.rng hL.et
  rw [read_t2] at h
  exact h
theorem told_c3 (w : World) (hL : Has0 w) : Calls Tryz.prog 13 #[.string ⟨[103, 97, 112, 32, 49, 10, 115, 101, 97, 116, 32, 48, 32, 48, 32, 48, 10, 115, 101, 97, 116, 32, 48, 32, 48, 32, 53, 10].toArray⟩] w fun e w' => e = .returned (.tuple #[.int .i64 2, .agg #[.int .i64 3, .int .i64 1]]) ∧ Below w.heap.size w w' := by
  have h := check_any [103, 97, 112, 32, 49, 10, 115, 101, 97, 116, 32, 48, 32, 48, 32, 48, 10, 115, 101, 97, 116, 32, 48, 32, 48, 32, 53, 10] w hL.rng hL.et
  rw [read_t3] at h
  exact h
theorem told_c4 (w : World) (hL : Has0 w) : Calls Tryz.prog 13 #[.string ⟨[103, 97, 112, 32, 49, 10, 115, 101, 97, 116, 32, 48, 32, 48, 32, 48, 10, 107, 105, 108, 108, 32, 48, 32, 57].toArray⟩] w fun e w' => e = .returned (.tuple #[.int .i64 2, .agg #[.int .i64 3, .int .i64 6]]) ∧ Below w.heap.size w w' := by
  have h := check_any [103, 97, 112, 32, 49, 10, 115, 101, 97, 116, 32, 48, 32, 48, 32, 48, 10, 107, 105, 108, 108, 32, 48, 32, 57] w hL.rng hL.et
  rw [read_t4] at h
  exact h
theorem told_c5 (w : World) (hL : Has0 w) : Calls Tryz.prog 13 #[.string ⟨[103, 97, 112, 32, 48, 10].toArray⟩] w fun e w' => e = .returned (.tuple #[.int .i64 2, .agg #[.int .i64 1, .int .i64 5]]) ∧ Below w.heap.size w w' := by
  have h := check_any [103, 97, 112, 32, 48, 10] w hL.rng hL.et
  rw [read_t5] at h
  exact h
theorem told_c6 (w : World) (hL : Has0 w) : Calls Tryz.prog 13 #[.string ⟨[115, 101, 97, 116, 32, 49, 32, 50, 10].toArray⟩] w fun e w' => e = .returned (.tuple #[.int .i64 2, .agg #[.int .i64 1, .int .i64 9]]) ∧ Below w.heap.size w w' := by
  have h := check_any [115, 101, 97, 116, 32, 49, 32, 50, 10] w hL.rng hL.et
  rw [read_t6] at h
  exact h
theorem told_v7 (w : World) (hL : Has0 w) : Calls Tryz.prog 14 #[.string ⟨[120].toArray⟩] w fun e w' => ∃ v, e = .returned (.tuple #[venZ, v]) ∧ FaultAt 2 1 1 v w' ∧ Below w.heap.size w w' := by
  refine (venue_any [120] w hL.rng hL.et (fun p hp => by rw [read_t7] at hp; injection hp with hp; subst hp; decide)).mono ?_
  rintro e w' ⟨hv, hb⟩
  rw [read_t7] at hv
  obtain ⟨v, he, hf⟩ := hv
  exact ⟨v, he, hf, hb⟩
structure TSt (w : World) (B1 B2 B3 B4 B5 B6 sb so sc kb ko kc : Nat) (pa : Option Addr) (pc : Nat) (v : Value) (W : World) : Prop where
  past : Below w.heap.size w W
  lean : Has0 W
  x : Box W B1 33 #[.slice (some ⟨sb, so, none⟩) 2 sc, .int .i64 2, .int .i64 0, .slice (some ⟨kb, ko, none⟩) 1 kc, .slice pa 1 pc]
  u : VenAt W (some ⟨sb, so, none⟩) 2 sc (some ⟨kb, ko, none⟩) 1 kc pa 1 pc U1
  s2 : Box W B2 27 #[.int .i64 1, .int .i64 1]
  s3 : Box W B3 27 #[.int .i64 3, .int .i64 1]
  s4 : Box W B4 27 #[.int .i64 3, .int .i64 6]
  s5 : Box W B5 27 #[.int .i64 1, .int .i64 5]
  s6 : Box W B6 27 #[.int .i64 1, .int .i64 9]
  f : FaultAt 2 1 1 v W
variable {w : World} {B1 B2 B3 B4 B5 B6 sb so sc kb ko kc : Nat} {pa : Option Addr} {pc : Nat} {v : Value} {W W' : World}
theorem TSt.next (h : TSt w B1 B2 B3 B4 B5 B6 sb so sc kb ko kc pa pc v W) (hb : Below W.heap.size W W') : TSt w B1 B2 B3 B4 B5 B6 sb so sc kb ko kc pa pc v W' :=
  ⟨h.past.trans (hb.mono h.past.size), h.lean.next hb, h.x.next hb, h.u.next hb, h.s2.next hb, h.s3.next hb, h.s4.next hb, h.s5.next hb, h.s6.next hb, h.f.next hb⟩
theorem TSt.seat0 (h : TSt w B1 B2 B3 B4 B5 B6 sb so sc kb ko kc pa pc v W) : SeatAt W sb so 0 5 6 0 := by
  have := (h.u.s.some_cells (by decide)).seat 0 (by decide)
  simpa [U1] using this
theorem TSt.seat1 (h : TSt w B1 B2 B3 B4 B5 B6 sb so sc kb ko kc pa pc v W) : SeatAt W sb (so + 4) 1 3 4 1 := by
  have := (h.u.s.some_cells (by decide)).seat 1 (by decide)
  simpa [U1] using this
theorem TSt.kill0 (h : TSt w B1 B2 B3 B4 B5 B6 sb so sc kb ko kc pa pc v W) : W.cell? ⟨kb, ko, none⟩ = some (.int .i64 1) := by
  have := (h.u.k.some_cells (by decide)).int 0 (by decide)
  simpa [U1] using this
theorem told_code (v : Value) (W : World) (hE : Et W) (hf : FaultAt 2 1 1 v W) : Calls Tryz.prog 16 #[v] W fun e w' => e = .returned (.int .i64 2) ∧ Below W.heap.size W w' :=
  callsIn_wide.1 (Flt.Code_in 3 (by omega) v (2, 1, 1) [] W hE (hf.chain (by unfold I64; omega) (by unfold I64; omega) (by unfold I64; omega)))
theorem told_spot (v : Value) (W : World) (hE : Et W) (hf : FaultAt 2 1 1 v W) : Calls Tryz.prog 17 #[v] W fun e w' => e = .returned (.agg #[.int .i64 1, .int .i64 1]) ∧ Below W.heap.size W w' :=
  callsIn_wide.1 (Flt.Spot_in 3 (by omega) v [(2, 1, 1)] W hE (hf.chain (by unfold I64; omega) (by unfold I64; omega) (by unfold I64; omega)))
set_option maxHeartbeats 8000000 in
theorem told_any (w : World) (hL : Has0 w) : Calls Tryz.prog 10 #[] w fun e w' => e = .returned (.bool true) ∧ Below w.heap.size w w' := by
  have HL : Hid (Has0 w) := hL
  clear hL
  go_enter Tryz.func10, Tryz.ntmps10
  go_wp2_with fail
  refine (told_v1 w HL.out).mono ?_
  rintro e w1 ⟨sb, so, sc, kb, ko, kc, pa, pc, rfl, hu, hb⟩
  have al1 := below_alloc w1 (.cells #[.slice (some ⟨sb, so, none⟩) 2 sc, .int .i64 2, .int .i64 0, .slice (some ⟨kb, ko, none⟩) 1 kc, .slice pa 1 pc] 33)
  have p1 := hb.trans (al1.mono hb.size)
  have x1 := Box.fresh w1 33 #[.slice (some ⟨sb, so, none⟩) 2 sc, .int .i64 2, .int .i64 0, .slice (some ⟨kb, ko, none⟩) 1 kc, .slice pa 1 pc]
  have u1 := hu.next al1
  have l1 := HL.out.next p1
  clear hb al1 hu HL
  go_wp2_with fail
  refine (told_c2 _ l1).mono ?_
  rintro e w2 ⟨rfl, hb⟩
  have al := below_alloc w2 (.cells #[.int .i64 1, .int .i64 1] 27)
  have hbb := hb.trans (al.mono hb.size)
  have p2 := p1.trans (hbb.mono p1.size)
  have l2 := l1.next hbb
  replace x1 := x1.next hbb
  replace u1 := u1.next hbb
  have s2 := Box.fresh w2 27 #[.int .i64 1, .int .i64 1]
  clear hb al hbb p1 l1
  go_wp2_with fail
  refine (told_c3 _ l2).mono ?_
  rintro e w3 ⟨rfl, hb⟩
  have al := below_alloc w3 (.cells #[.int .i64 3, .int .i64 1] 27)
  have hbb := hb.trans (al.mono hb.size)
  have p3 := p2.trans (hbb.mono p2.size)
  have l3 := l2.next hbb
  replace x1 := x1.next hbb
  replace u1 := u1.next hbb
  replace s2 := s2.next hbb
  have s3 := Box.fresh w3 27 #[.int .i64 3, .int .i64 1]
  clear hb al hbb p2 l2
  go_wp2_with fail
  refine (told_c4 _ l3).mono ?_
  rintro e w4 ⟨rfl, hb⟩
  have al := below_alloc w4 (.cells #[.int .i64 3, .int .i64 6] 27)
  have hbb := hb.trans (al.mono hb.size)
  have p4 := p3.trans (hbb.mono p3.size)
  have l4 := l3.next hbb
  replace x1 := x1.next hbb
  replace u1 := u1.next hbb
  replace s2 := s2.next hbb
  replace s3 := s3.next hbb
  have s4 := Box.fresh w4 27 #[.int .i64 3, .int .i64 6]
  clear hb al hbb p3 l3
  go_wp2_with fail
  refine (told_c5 _ l4).mono ?_
  rintro e w5 ⟨rfl, hb⟩
  have al := below_alloc w5 (.cells #[.int .i64 1, .int .i64 5] 27)
  have hbb := hb.trans (al.mono hb.size)
  have p5 := p4.trans (hbb.mono p4.size)
  have l5 := l4.next hbb
  replace x1 := x1.next hbb
  replace u1 := u1.next hbb
  replace s2 := s2.next hbb
  replace s3 := s3.next hbb
  replace s4 := s4.next hbb
  have s5 := Box.fresh w5 27 #[.int .i64 1, .int .i64 5]
  clear hb al hbb p4 l4
  go_wp2_with fail
  refine (told_c6 _ l5).mono ?_
  rintro e w6 ⟨rfl, hb⟩
  have al := below_alloc w6 (.cells #[.int .i64 1, .int .i64 9] 27)
  have hbb := hb.trans (al.mono hb.size)
  have p6 := p5.trans (hbb.mono p5.size)
  have l6 := l5.next hbb
  replace x1 := x1.next hbb
  replace u1 := u1.next hbb
  replace s2 := s2.next hbb
  replace s3 := s3.next hbb
  replace s4 := s4.next hbb
  replace s5 := s5.next hbb
  have s6 := Box.fresh w6 27 #[.int .i64 1, .int .i64 9]
  clear hb al hbb p5 l5
  go_wp2_with fail
  refine (told_v7 _ l6).mono ?_
  rintro e w7 ⟨v, rfl, hf, hb⟩
  have st : TSt w w1.heap.size w2.heap.size w3.heap.size w4.heap.size w5.heap.size w6.heap.size sb so sc kb ko kc pa pc v w7 :=
    ⟨p6.trans (hb.mono p6.size), l6.next hb, x1.next hb, u1.next hb, s2.next hb, s3.next hb, s4.next hb, s5.next hb, s6.next hb, hf⟩
  clear hb x1 u1 s2 s3 s4 s5 s6 p6 l6 hf
  obtain ⟨fb, rfl, _⟩ := id st.f
  generalize w1.heap.size = B1 at st ⊢
  generalize w2.heap.size = B2 at st ⊢
  generalize w3.heap.size = B3 at st ⊢
  generalize w4.heap.size = B4 at st ⊢
  generalize w5.heap.size = B5 at st ⊢
  generalize w6.heap.size = B6 at st ⊢
  have i0 := st.x.cell 0 _ rfl
  have i1 := st.x.cell 1 _ rfl
  have i2 := st.x.cell 2 _ rfl
  have i3 := st.x.cell 3 _ rfl
  have i4 := st.x.cell 4 _ rfl
  have il := st.x.lt
  have j20 := st.s2.cell 0 _ rfl
  have j21 := st.s2.cell 1 _ rfl
  have jl2 := st.s2.lt
  have j30 := st.s3.cell 0 _ rfl
  have j31 := st.s3.cell 1 _ rfl
  have jl3 := st.s3.lt
  have j40 := st.s4.cell 0 _ rfl
  have j41 := st.s4.cell 1 _ rfl
  have jl4 := st.s4.lt
  have j50 := st.s5.cell 0 _ rfl
  have j51 := st.s5.cell 1 _ rfl
  have jl5 := st.s5.lt
  have j60 := st.s6.cell 0 _ rfl
  have j61 := st.s6.cell 1 _ rfl
  have jl6 := st.s6.lt
  have s0 := st.seat0.c0
  have s1 := st.seat0.c1
  have s2 := st.seat0.c2
  have s3 := st.seat0.c3
  have t0 := st.seat1.c0
  have t1 := st.seat1.c1
  have t2 := st.seat1.c2
  have t3 := st.seat1.c3
  have sl := (st.u.s.some_cells (by decide)).1
  have k0 := st.kill0
  have kl := (st.u.k.some_cells (by decide)).1
  have ST : Hid (TSt w B1 B2 B3 B4 B5 B6 sb so sc kb ko kc pa pc (.iface 80 (.pointer (some ⟨fb, 0, none⟩))) (w7.alloc (.cells #[.slice none 0 0, .int .i64 0, .int .i64 0, .slice none 0 0, .slice none 0 0] 33))) := st.next (below_alloc _ _)
  clear st
  simp only [Nat.add_assoc, Nat.reduceAdd] at s0 s1 s2 s3 t0 t1 t2 t3
  go_wp2_with fail
  refine (told_code _ _ ST.out.lean.et ST.out.f).mono ?_
  rintro e w8 ⟨rfl, hb8⟩
  have ST8 : Hid (TSt w B1 B2 B3 B4 B5 B6 sb so sc kb ko kc pa pc (.iface 80 (.pointer (some ⟨fb, 0, none⟩))) w8) := ST.out.next hb8
  clear hb8 ST
  go_wp2_with fail
  refine (told_spot _ _ ST8.out.lean.et ST8.out.f).mono ?_
  rintro e w9 ⟨rfl, hb9⟩
  have st9 := (ST8.out.next hb9).past
  clear hb9
  go_wp2
  go_ret
  exact ⟨rfl, st9⟩
end Go.Proofs.YtpkjhlcolgoknaaGreatDoor.Par
