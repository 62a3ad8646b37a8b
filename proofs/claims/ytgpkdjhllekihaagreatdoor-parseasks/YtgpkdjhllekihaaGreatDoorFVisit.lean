/- fault.visit, fault.faults by contracts: over a chain of *fault in memory. -/
import Derived.RangeFuncNested
import Derived.RangeFuncBound
import Derived.RangeFuncCalls
import Derived.RangeFuncLeaves
import Derived.Shelf.Abstract
import Derived.Shelf.RegionOpen
import Derived.WalkKit
import Derived.OwnWalkIn
import Derived.TacticsInMore
import Derived.LoopNIn
import Derived.LoopIn
import Derived.Test.YtgpkdjhllekihaaGreatDoorFOut
namespace Go.Proofs.YtgpkdjhllekihaaGreatDoor.Flt
open Go.RowKit Go.Shelf

attribute [local go_sem] Oper.semAt_some

theorem room_of_none {F : Fence} (hd : F.depth = none) (k : Nat) : F.room k := fun d h => by rw [hd] at h; cases h
theorem RoundIn.anyDepth {F : Fence} (hd : F.depth = none) {m m' : Nat} {P : Program} {l : Nat} {f : FuncId} {tmps : Array Value} {assign body : Code} {w : World} {R : Ending → World → Prop}
  (h : RoundIn F m P l f tmps assign body w R) : RoundIn F m' P l f tmps assign body w R := ⟨h.1, fun c cs _ => h.2 c cs (room_of_none hd _)⟩
theorem YieldAt.anyDepth {F : Fence} (hd : F.depth = none) {m : Nat} (m' : Nat) {P : Program} {l : Nat} {args : Array Value} {W : World} {R : Ending → World → Prop} (h : YieldAt F m P l args W R) : YieldAt F m' P l args W R := by
 obtain ⟨fn, tmps, assign, body, hy, hR⟩ := h
 exact ⟨fn, tmps, assign, body, hy, RoundIn.anyDepth hd hR⟩

/-- The cell of errors.errorType. -/
def Et (w : World) : Prop := w.cell? ⟨0, 0, none⟩ = some (.iface 152 (.agg #[.pointer (some ⟨6, 35, none⟩)]))
theorem Et.below {B : Nat} {a b : World} (h : Et a) (hb : Below B a b) (h0 : 0 < B) : Et b := (hb.cell (p := ⟨0, 0, none⟩) h0).trans h
theorem Et.pos {a : World} (h : Et a) : 0 < a.heap.size := by
 rcases Nat.eq_zero_or_pos a.heap.size with h0 | h'
 ·simp [Et, World.cell?, h0] at h
 ·exact h'

/-- A number of Go's int. -/
def I64 (n : Int) : Prop := -9223372036854775808 ≤ n ∧ n ≤ 9223372036854775807
/-- A fault in memory: its block, its kind, its line, its column. -/
def NodeAt (w : World) (x : Nat × Int × Int × Int) : Prop :=
 x.1 < w.heap.size ∧ w.cell? ⟨x.1, 0, none⟩ = some (.int .i64 x.2.1) ∧ w.cell? ⟨x.1, 1, none⟩ = some (.int .i64 x.2.2.1) ∧ w.cell? ⟨x.1, 2, none⟩ = some (.int .i64 x.2.2.2) ∧ (I64 x.2.1 ∧ I64 x.2.2.1 ∧ I64 x.2.2.2)
abbrev FN (w : World) := { x : Nat × Int × Int × Int // NodeAt w x }

/-- How far up an error lies. -/
def rank : Value → Nat
 | .iface _ (.pointer (some a)) => a.block + 1
 | _ => 0

/-- The chain: each fault's inner error is the next one; the last one's is nil. -/
def Linked (w : World) : Value → List (FN w) → Prop
 | v, [] => v = .nilIface
 | v, x :: r => v = .iface 69 (.pointer (some ⟨x.1.1, 0, none⟩)) ∧ ∃ vin, w.cell? ⟨x.1.1, 3, none⟩ = some vin ∧ rank vin ≤ x.1.1 ∧ Linked w vin r

set_option maxRecDepth 100000 in
set_option maxHeartbeats 2000000 in
theorem visit_in (n : Nat) (w0 : World) (hg : Et w0) (l : Nat) (xs : List (FN w0)) (J Jx : List (FN w0) → World → Prop)
  (hJ : ∀ s W W', J s W → Below W.heap.size W W' → J s W')
  (hY : ∀ m pre x W, J pre W → pre.length < xs.length → YieldAt Fence.wide m Tryz.prog l #[.pointer (some ⟨x.1.1, 0, none⟩)] W fun e W' =>
   (e = .returned (.bool true) ∧ J (pre ++ [x]) W' ∧ Below w0.heap.size W W') ∨ (e = .returned (.bool false) ∧ Jx (pre ++ [x]) W'))
  (v : Value) (W : World) (hL : Linked w0 v xs) (hB : Below w0.heap.size w0 W) (h0 : J [] W) :
  CallsIn Fence.wide n Tryz.prog 39 #[v, .func (.yield l) #[] #[]] W fun e W' => (∃ b, e = .returned b) ∧
   ((∃ ys, ys = xs ∧ J ys W') ∨ (∃ pre, pre <+: xs ∧ Jx pre W')) := by
 have hp := hg.pos
 have hdd : ∀ k : Nat, (Fence.wide.depth.isSome = true → 1 ≤ k) := fun k h => by cases h
 refine callsIn_of_wp Tryz.func39 rfl trivial ?_ rfl
 simp only [Tryz.ntmps39, List.size_toArray, List.length_cons, List.length_nil, Nat.reduceAdd, Nat.reduceSub, Array.replicate_succ, Array.replicate_zero, List.push_toArray, List.append_toArray, List.nil_append, List.cons_append]
 gi_wp2
 gi_loopw [0] (fun v wr => ∃ (pre rest : List (FN w0)), xs = pre ++ rest ∧ Linked w0 v rest ∧ J pre wr ∧ Below w0.heap.size w0 wr)
  (fun v _ => rank v)
 case atStart =>
  exact ⟨[], xs, rfl, hL, h0, hB⟩
 case round =>
  obtain ⟨pre, rest, hx, hl, hJs, hBs⟩ := hrel
  cases rest with
  | nil =>
   have hl' := hl
   simp only [Linked] at hl'
   subst hl'
   gi_wp2_with (first | (refine ⟨trivial, hdd _, ?_⟩; gi_at_call 61; refine (callsIn_wide.2 (outermost_nil _)).mono ?_; rintro e W1 ⟨rfl, hb1⟩))
   go_ret
   exact ⟨⟨_, rfl⟩, .inl ⟨pre, by simp [hx], hJ _ _ _ hJs hb1⟩⟩
  | cons x rest =>
   have hl' := hl
   obtain ⟨rfl, vin, hin, hrk, hr⟩ := hl'
   have hlen : pre.length < xs.length := by rw [hx]; simp
   have hgw : Et wr := hg.below hBs hp
   gi_wp2_with (first
    | (refine ⟨trivial, hdd _, ?_⟩; gi_at_call 61; refine (callsIn_wide.2 (outermost_hit _ _ hgw)).mono ?_; rintro e W1 ⟨rfl, hb1⟩; obtain ⟨fn, tmps, assign, body, hy, hR⟩ := hY (n - 1) pre x W1 (hJ _ _ _ hJs hb1) hlen)
    | (refine ⟨trivial, hdd _, ?_⟩; gi_at_call 62; refine (callsIn_wide.2 (partsAhead_hit _ _)).mono ?_; rintro e W2 ⟨rfl, rfl⟩))
   (try refine ⟨hdd _, ?_⟩)
   refine hR.mono ?_
   have hbW := hBs.trans (hb1.mono hBs.size)
   rintro e W3 (⟨rfl, hJ3, hk3⟩ | ⟨rfl, hJx3⟩)
   ·have hc3 : W3.cell? ⟨x.1.1, 3, none⟩ = some vin := ((hbW.trans hk3).cell (p := ⟨x.1.1, 3, none⟩) x.2.1).trans hin
    gi_wp2
    go_roundw
    case rel => exact ⟨pre ++ [x], rest, by simp [hx], hr, hJ3, hbW.trans hk3⟩
    case measure => show rank vin < x.1.1 + 1; omega
   ·gi_wp2
    go_ret
    exact ⟨⟨_, rfl⟩, .inr ⟨pre ++ [x], ⟨rest, by simp [hx]⟩, hJx3⟩⟩

set_option maxHeartbeats 1000000 in
/-- faults' closure: it hands what it captured to visit. -/
theorem faults1_in (n : Nat) (w0 : World) (hg : Et w0) (l Bv : Nat) (xs : List (FN w0)) (J Jx : List (FN w0) → World → Prop)
  (hJ : ∀ s W W', J s W → Below W.heap.size W W' → J s W')
  (hY : ∀ pre x W, J pre W → pre.length < xs.length → YieldAt Fence.wide (n - 1) Tryz.prog l #[.pointer (some ⟨x.1.1, 0, none⟩)] W fun e W' =>
   (e = .returned (.bool true) ∧ J (pre ++ [x]) W' ∧ Below w0.heap.size W W') ∨ (e = .returned (.bool false) ∧ Jx (pre ++ [x]) W'))
  (v : Value) (W : World) (hv : W.cell? ⟨Bv, 0, none⟩ = some v) (hL : Linked w0 v xs) (hB : Below w0.heap.size w0 W) (h0 : J [] W) :
  CallsIn Fence.wide n Tryz.prog 38 #[.func (.yield l) #[] #[], .pointer (some ⟨Bv, 0, none⟩)] W fun e W' => (∃ b, e = .returned b) ∧
   ((∃ ys, ys = xs ∧ J ys W') ∨ (∃ pre, pre <+: xs ∧ Jx pre W')) := by
 have hdd : ∀ k : Nat, (Fence.wide.depth.isSome = true → 1 ≤ k) := fun k h => by cases h
 have hp := visit_in (n - 1) w0 hg l xs J Jx hJ (fun m pre x W hj hl => YieldAt.anyDepth rfl m (hY pre x W hj hl)) v W hL hB h0
 refine callsIn_of_wp Tryz.func38 rfl trivial ?_ rfl
 simp only [Tryz.ntmps38, List.size_toArray, List.length_cons, List.length_nil, Nat.reduceAdd, Nat.reduceSub, Array.replicate_succ, Array.replicate_zero, List.push_toArray, List.append_toArray, List.nil_append, List.cons_append]
 gi_wp2_with (refine ⟨trivial, hdd _, ?_⟩; gi_at_call 39; refine hp.mono ?_; clear hp; rintro e W1 ⟨⟨b, rfl⟩, hq⟩)
 go_end0
 exact ⟨⟨_, rfl⟩, hq⟩

set_option maxHeartbeats 1000000 in
/-- faults: the error is boxed; the function value captures the box. -/
theorem faults_in (n : Nat) (v : Value) (hv : v = .nilIface ∨ ∃ t x, v = .iface t x) (w : World) :
  CallsIn Fence.wide n Tryz.prog 22 #[v] w fun e w' => e = .returned (.func (.func 38) #[] #[.pointer (some ⟨w.heap.size, 0, none⟩)]) ∧ w' = w.alloc (.cells #[v] 35) := by
 rcases hv with rfl | ⟨t, x, rfl⟩
 ·refine callsIn_of_wp Tryz.func22 rfl trivial ?_ rfl
  simp only [Tryz.ntmps22, List.size_toArray, List.length_cons, List.length_nil, Nat.reduceAdd, Nat.reduceSub, Array.replicate_succ, Array.replicate_zero, List.push_toArray, List.append_toArray, List.nil_append, List.cons_append]
  gi_wp2
  go_ret
  exact ⟨rfl, rfl⟩
 ·refine callsIn_of_wp Tryz.func22 rfl trivial ?_ rfl
  simp only [Tryz.ntmps22, List.size_toArray, List.length_cons, List.length_nil, Nat.reduceAdd, Nat.reduceSub, Array.replicate_succ, Array.replicate_zero, List.push_toArray, List.append_toArray, List.nil_append, List.cons_append]
  gi_wp2
  go_ret
  exact ⟨rfl, rfl⟩

theorem Linked.iface {w : World} {v : Value} {xs : List (FN w)} (h : Linked w v xs) : v = .nilIface ∨ ∃ t x, v = .iface t x := by
 cases xs with
 | nil => exact .inl h
 | cons x r => exact .inr ⟨_, _, h.1⟩

/-- What faults hands back gives the chain's faults one by one, or a beginning of them. -/
theorem faults_stops (n : Nat) (w0 : World) (hg : Et w0) (Bv : Nat) (v : Value) (xs : List (FN w0)) (w : World) (hBv : Bv < w.heap.size)
  (hb : Below w0.heap.size w0 w) (hc : w.cell? ⟨Bv, 0, none⟩ = some v) (hL : Linked w0 v xs) :
  SeqStopsK Fence.wide n Tryz.prog 38 #[.pointer (some ⟨Bv, 0, none⟩)] (fun x : FN w0 => #[Value.pointer (some ⟨x.1.1, 0, none⟩)]) (Below w0.heap.size) (fun ys => ys = xs) (fun pre => pre <+: xs) xs.length w := fun l J Jx W hW hJa _ hY h0 =>
 faults1_in n w0 hg l Bv xs J Jx (fun s W W' hs hb => hJa s W W' none hs ⟨hb.os, hb.tape, hb.output, hb.size, fun i hi _ => hb.block i hi⟩ (fun r e => by cases e)) hY v W ((hW.cell (p := ⟨Bv, 0, none⟩) hBv).trans hc) hL (hb.trans (hW.mono hb.size)) h0

/-! ### Chains as data -/
theorem NodeAt.below {a b : World} (h : Below a.heap.size a b) {x : Nat × Int × Int × Int} (hx : NodeAt a x) : NodeAt b x :=
 ⟨Nat.lt_of_lt_of_le hx.1 h.size, (h.cell (p := ⟨x.1, 0, none⟩) hx.1).trans hx.2.1, (h.cell (p := ⟨x.1, 1, none⟩) hx.1).trans hx.2.2.1, (h.cell (p := ⟨x.1, 2, none⟩) hx.1).trans hx.2.2.2.1, hx.2.2.2.2⟩
theorem Linked.below {a b : World} (h : Below a.heap.size a b) : ∀ {v : Value} {xs : List (FN a)}, Linked a v xs → Linked b v (xs.map fun x => ⟨x.1, x.2.below h⟩)
 | _, [], hl => hl
 | _, x :: _, ⟨hv, vin, hc, hr, hl⟩ => ⟨hv, vin, (h.cell (p := ⟨x.1.1, 3, none⟩) x.2.1).trans hc, hr, Linked.below h hl⟩
/-- The value is a chain of faults whose kinds and places are these, the outer one first. -/
def Chain (w : World) (v : Value) (ks : List (Int × Int × Int)) : Prop := ∃ xs : List (FN w), Linked w v xs ∧ xs.map (fun x => x.1.2) = ks
theorem Chain.below {a b : World} (h : Below a.heap.size a b) {v : Value} {ks : List (Int × Int × Int)} (hc : Chain a v ks) : Chain b v ks := by
 obtain ⟨xs, hl, rfl⟩ := hc
 exact ⟨_, hl.below h, by simp [Function.comp_def]⟩
theorem Chain.nil (w : World) : Chain w .nilIface [] := ⟨[], rfl, rfl⟩
theorem Linked.rank_le {w : World} {v : Value} {xs : List (FN w)} (h : Linked w v xs) : rank v ≤ w.heap.size := by
 cases xs with
 | nil => have h' : v = .nilIface := h; subst h'; exact Nat.zero_le _
 | cons x r => obtain ⟨rfl, _⟩ := h; have := x.2.1; show x.1.1 + 1 ≤ _; omega
theorem Chain.cons {w : World} {v : Value} {ks : List (Int × Int × Int)} (h : Chain w v ks) (k l c : Int) (hk : I64 k) (hli : I64 l) (hc : I64 c) :
  Chain (w.alloc (.cells #[.int .i64 k, .int .i64 l, .int .i64 c, v] 72)) (.iface 69 (.pointer (some ⟨w.heap.size, 0, none⟩))) ((k, l, c) :: ks) := by
 have hb : Below w.heap.size w (w.alloc (.cells #[.int .i64 k, .int .i64 l, .int .i64 c, v] 72)) := (Below.refl _ w).alloc (Nat.le_refl _) _
 obtain ⟨xs, hl, rfl⟩ := h
 have hn : NodeAt (w.alloc (.cells #[.int .i64 k, .int .i64 l, .int .i64 c, v] 72)) (w.heap.size, k, l, c) :=
  ⟨by simp, by simp, by simp, by simp, hk, hli, hc⟩
 refine ⟨⟨_, hn⟩ :: xs.map fun x => ⟨x.1, x.2.below hb⟩, ⟨rfl, v, by simp, hl.rank_le, hl.below hb⟩, by simp [Function.comp_def]⟩
end Go.Proofs.YtgpkdjhllekihaaGreatDoor.Flt
