/- A venue that was read may be, once it is sorted; errors.As at the target *wrong of package parse, by contracts; parse.ask, parse.toFault, parse.Check, parse.Venue by their contracts; parse.toFault, parse.Venue by their contracts. -/
import Derived.Test.YtpkjhlcolgoknaaGreatDoorZae
import Derived.Test.YtpkjhlcolgoknaaGreatDoorVRAgree
import Derived.Test.YtpkjhlcolgoknaaGreatDoorZab
import Derived.Test.YtpkjhlcolgoknaaGreatDoorVBox
import Derived.WalkKit
import Derived.LaidEql
import Derived.Stop.Asserts
import Derived.RowKitTokens
import Derived.Test.YtpkjhlcolgoknaaGreatDoorZaf
import Derived.Test.YtpkjhlcolgoknaaGreatDoorFNew
import Derived.Deep.RegionWith
namespace Go.Proofs.YtpkjhlcolgoknaaGreatDoor.Par
set_option linter.unusedVariables false
set_option maxRecDepth 100000
open Go.Proofs.YtpkjhlcolgoknaaGreatDoor.Ven
open Go.Proofs.YtpkjhlcolgoknaaGreatDoor.Prs (atI wordK kindL letsK)

structure GoodSt (s : St) : Prop where
  seat : ∀ x ∈ s.seats, seatB x = true
  apart : s.seats.Pairwise keyNe
  ls : s.seats.length ≤ 4096
  gap : s.gap = 0 ∨ lengthB s.gap = true
  radius : distB s.radius = true
  pole : ∀ p ∈ s.poles, poleB p = true
  lp : s.poles.length ≤ 200
  lk : s.kills.length ≤ 200
theorem GoodSt.zero : GoodSt St.zero := ⟨by simp [St.zero], by simp [St.zero], by simp [St.zero], .inl rfl, by decide, by simp [St.zero], by simp [St.zero], by simp [St.zero]⟩
theorem atI_neg {S : List Seat} {r x : Int} (h : atI S r x < 0) : ∀ a ∈ S, ¬ (a.row = r ∧ a.x = x) := by
  intro a ha hc
  unfold atI at h
  cases hf : S.findIdx? (fun s => s.row == r && s.x == x) with
  | some i => rw [hf] at h; simp at h; omega
  | none =>
    rw [List.findIdx?_eq_none_iff] at hf
    have := hf a ha
    simp [hc.1, hc.2] at this
theorem GoodSt.add {s s' : St} {k : Nat} {t : T} {rest : List T} (h : GoodSt s) (h1 : 1 ≤ k) (h7 : k ≤ 7) (hn : rest.length = numK k) (hr : rangeL k 0 rest = none) (ha : addL k t rest s = some s') : GoodSt s' := by
  have hl : ∀ j, j < rest.length → letsK k j (nOf rest j) = true := fun j hj => by
    have := range_each k rest 0 hr j hj
    rw [Nat.zero_add] at this
    unfold nOf; rw [getElem!_pos rest j hj]; exact this
  have hk : k = 1 ∨ k = 2 ∨ k = 3 ∨ k = 4 ∨ k = 5 ∨ k = 6 ∨ k = 7 := by omega
  have seatCase : ∀ kd : Int, kindB kd = true → rest.length = 3 → rowB (nOf rest 0) = true → coordB (nOf rest 1) = true → coordB (nOf rest 2) = true → atI s.seats (nOf rest 0) (nOf rest 1) < 0 ∧ s.seats.length < 4096 → GoodSt { s with seats := s.seats ++ [⟨nOf rest 0, nOf rest 1, nOf rest 2, kd⟩] } := by
    intro kd hkd h3 hb0 hb1 hb2 hc
    refine { h with seat := fun x hx => ?_, apart := ?_, ls := by simp; omega }
    · rcases List.mem_append.1 hx with hx | hx
      · exact h.seat x hx
      · rw [List.mem_singleton] at hx; subst hx
        unfold seatB standsB
        simp [hb0, hb1, hb2, hkd]
    · rw [List.pairwise_append]
      refine ⟨h.apart, by simp, fun a ha b hb => ?_⟩
      rw [List.mem_singleton] at hb; subst hb
      exact atI_neg hc.1 a ha
  rcases hk with rfl | rfl | rfl | rfl | rfl | rfl | rfl
  · have l0 := hl 0 (by rw [hn]; decide)
    have l1 := hl 1 (by rw [hn]; decide)
    have l2 := hl 2 (by rw [hn]; decide)
    unfold addL seatOf at ha
    simp only [show ¬ ((1 : Nat) = 5) by decide, show ¬ ((1 : Nat) = 6) by decide, show ¬ ((1 : Nat) = 7) by decide, show ¬ ((1 : Nat) = 4) by decide, if_false] at ha
    split at ha
    · rename_i hc; injection ha with ha; subst ha; exact seatCase _ (by decide) hn l0 l1 l2 hc
    · cases ha
  · have l0 := hl 0 (by rw [hn]; decide)
    have l1 := hl 1 (by rw [hn]; decide)
    have l2 := hl 2 (by rw [hn]; decide)
    unfold addL seatOf at ha
    simp only [show ¬ ((2 : Nat) = 5) by decide, show ¬ ((2 : Nat) = 6) by decide, show ¬ ((2 : Nat) = 7) by decide, show ¬ ((2 : Nat) = 4) by decide, if_false] at ha
    split at ha
    · rename_i hc; injection ha with ha; subst ha; exact seatCase _ (by decide) hn l0 l1 l2 hc
    · cases ha
  · have l0 := hl 0 (by rw [hn]; decide)
    have l1 := hl 1 (by rw [hn]; decide)
    have l2 := hl 2 (by rw [hn]; decide)
    unfold addL seatOf at ha
    simp only [show ¬ ((3 : Nat) = 5) by decide, show ¬ ((3 : Nat) = 6) by decide, show ¬ ((3 : Nat) = 7) by decide, show ¬ ((3 : Nat) = 4) by decide, if_false] at ha
    split at ha
    · rename_i hc; injection ha with ha; subst ha; exact seatCase _ (by decide) hn l0 l1 l2 hc
    · cases ha
  · have l0 := hl 0 (by rw [hn]; decide)
    have l1 := hl 1 (by rw [hn]; decide)
    have l2 := hl 2 (by rw [hn]; decide)
    unfold addL at ha
    simp only [show ¬ ((4 : Nat) = 5) by decide, show ¬ ((4 : Nat) = 6) by decide, show ¬ ((4 : Nat) = 7) by decide, if_false, if_true] at ha
    split at ha
    · rename_i hc; injection ha with ha; subst ha
      refine { h with pole := fun p hp => ?_, lp := by simp; omega }
      rcases List.mem_append.1 hp with hp | hp
      · exact h.pole p hp
      · rw [List.mem_singleton] at hp; subst hp
        have l0' : coordB (nOf rest 0) = true := l0
        have l1' : coordB (nOf rest 1) = true := l1
        have l2' : lengthB (nOf rest 2) = true := l2
        unfold poleB standsB
        simp [l0', l1', l2']
    · cases ha
  · have l0 := hl 0 (by rw [hn]; decide)
    unfold addL at ha
    simp only [if_true] at ha
    split at ha
    · injection ha with ha; subst ha; exact { h with gap := .inr l0 }
    · cases ha
  · have l0 := hl 0 (by rw [hn]; decide)
    unfold addL at ha
    simp only [show ¬ ((6 : Nat) = 5) by decide, if_false, if_true] at ha
    split at ha
    · injection ha with ha; subst ha; exact { h with radius := l0 }
    · cases ha
  · unfold addL at ha
    simp only [show ¬ ((7 : Nat) = 5) by decide, show ¬ ((7 : Nat) = 6) by decide, if_false, if_true] at ha
    split at ha
    · rename_i hc; injection ha with ha; subst ha; exact { h with lk := by simp; omega }
    · cases ha
theorem GoodSt.line {s s' : St} {ts : List T} {e : Int × Int} (h : GoodSt s) (hl : lineL ts e s = .ok s') : GoodSt s' := by
  cases ts with
  | nil => injection hl with hl; subst hl; exact h
  | cons t rest =>
    obtain ⟨tk, tn, tl, tc, tt⟩ := t
    cases ht : tellL (tk, tn, tl, tc, tt) rest e with
    | some p => rw [lineL_bad ht] at hl; cases hl
    | none =>
      obtain ⟨k, k1, k7, rfl, hkk, hkn, hkr⟩ := tell_none ht
      cases ha : addL (kindL (wordK k)) (tk, tn, tl, tc, wordK k) rest s with
      | none => rw [lineL_no ht ha] at hl; cases hl
      | some s2 =>
        rw [lineL_add ht ha] at hl
        injection hl with hl; subst hl
        rw [hkk] at ha
        exact h.add k1 k7 hkn hkr ha
theorem GoodSt.lines {ts : List T} {e : Int × Int} : ∀ (f a : Nat) (s s' : St), GoodSt s → linesL ts e f a s = .ok s' → GoodSt s'
  | 0, _, s, s', h, hl => by injection hl with hl; subst hl; exact h
  | f + 1, a, s, s', h, hl => by
    rw [linesL_succ] at hl
    split at hl
    · cases h1 : lineL (Tok.lineTs ts a) (endL ts a e) s with
      | error p => rw [h1] at hl; cases hl
      | ok s2 => rw [h1] at hl; exact GoodSt.lines f _ s2 s' (h.line h1) hl
    · injection hl with hl; subst hl; exact h
theorem killsL_good {S : List Seat} : ∀ (ks : List Kill) (acc K : List Int), (∀ k ∈ acc, isSeatB k S.length = true) → killsL S ks acc = .ok K → (∀ k ∈ K, isSeatB k S.length = true) ∧ K.length = acc.length + ks.length
  | [], acc, K, h, hk => by injection hk with hk; subst hk; exact ⟨h, rfl⟩
  | f :: r, acc, K, h, hk => by
    unfold killsL at hk
    split at hk
    · cases hk
    · rename_i h0
      split at hk
      · cases hk
      · have := killsL_good r (acc ++ [atI S f.row f.x]) K (fun k hkm => by
          rcases List.mem_append.1 hkm with hkm | hkm
          · exact h k hkm
          · rw [List.mem_singleton] at hkm; subst hkm
            have := atI_lt S f.row f.x
            unfold isSeatB; simp; omega) hk
        refine ⟨this.1, ?_⟩
        rw [this.2]; simp; omega
structure GoodV (V : Ven) : Prop where
  seat : ∀ x ∈ V.seats, seatB x = true
  apart : V.seats.Pairwise keyNe
  one : 1 ≤ V.seats.length
  ls : V.seats.length ≤ 4096
  gap : lengthB V.gap = true
  radius : distB V.radius = true
  pole : ∀ p ∈ V.poles, poleB p = true
  lp : V.poles.length ≤ 200
  kill : ∀ k ∈ V.kills, isSeatB k V.seats.length = true
  lk : V.kills.length ≤ 200
theorem readL_good {l : List UInt8} {V : Ven} (h : readL l = .ok V) : GoodV V := by
  unfold readL at h
  split at h
  · cases h
  · rcases hA : Tok.allOf l with ⟨ts, li, co, code⟩
    simp only [hA] at h
    split at h
    · cases hL : linesL ts (li, co) (ts.length + 1) 0 St.zero with
      | error p => rw [hL] at h; cases h
      | ok s =>
        rw [hL] at h
        have hs := GoodSt.lines _ _ _ _ GoodSt.zero hL
        cases hw : wholeL s (li, co) with
        | error p => simp only [hw] at h; cases h
        | ok V' =>
          simp only [hw] at h
          injection h with h; subst h
          unfold wholeL at hw
          split at hw
          · cases hw
          · rename_i hne
            cases hk : killsL s.seats s.kills [] with
            | error p => rw [hk] at hw; cases hw
            | ok K =>
              rw [hk] at hw
              injection hw with hw; subst hw
              obtain ⟨k1, k2⟩ := killsL_good s.kills [] K (by simp) hk
              have hsl : ¬ s.seats = [] := fun hc => hne (.inl hc)
              have hg : ¬ s.gap = 0 := fun hc => hne (.inr hc)
              refine ⟨hs.seat, hs.apart, ?_, hs.ls, hs.gap.resolve_left hg, hs.radius, hs.pole, hs.lp, k1, ?_⟩
              · show 1 ≤ s.seats.length
                have : ¬ s.seats.length = 0 := fun hc => hsl (List.length_eq_zero_iff.1 hc)
                omega
              · show K.length ≤ 200
                rw [k2]; have := hs.lk; simp; omega
    · cases h
theorem posOf_few {V : Ven} {ord : List Nat} (ho : IsOrder V.seats ord) : (posOf V.kills ord V.seats.length).length ≤ V.kills.length := by
  have hn : ord.Nodup := ho.perm.nodup_iff.2 List.nodup_range
  have hlen := ho.length
  have hnd : ((List.range V.seats.length).filter (fun j => markB V.kills ord[j]!)).Nodup := List.nodup_range.filter _
  have hsub : ((List.range V.seats.length).filter (fun j => markB V.kills ord[j]!)).map (fun j => ((ord[j]! : Nat) : Int)) ⊆ V.kills := by
    intro x hx
    obtain ⟨j, hj, rfl⟩ := List.mem_map.1 hx
    rw [List.mem_filter] at hj
    unfold markB at hj
    exact of_decide_eq_true hj.2
  have hinj : (((List.range V.seats.length).filter (fun j => markB V.kills ord[j]!)).map (fun j => ((ord[j]! : Nat) : Int))).Nodup := by
    unfold List.Nodup
    rw [List.pairwise_map]
    refine List.Pairwise.imp_of_mem ?_ hnd
    intro a b ha hb hab hc
    rw [List.mem_filter, List.mem_range] at ha hb
    rw [getElem!_pos ord a (by omega), getElem!_pos ord b (by omega)] at hc
    exact hab ((List.getElem_inj hn).1 (by omega))
  have := hinj.length_le_of_subset hsub
  unfold posOf
  simpa using this
/-- A good venue is sorted, and then it may be. -/
theorem norm_good {V : Ven} (hV : GoodV V) {r : Option Ven} (h : NormTo V r) : ∃ ord, IsOrder V.seats ord ∧ r = some (normU V ord) ∧ mayB (normU V ord) = true := by
  rcases h with ⟨_, h⟩ | ⟨_, _, _, ord, ho, hr⟩
  · exfalso
    rcases h with h | h | h
    · have := hV.ls; omega
    · have := hV.lp; omega
    · rw [List.all_eq_true.2 hV.kill] at h; cases h
  · have hm : mayB (normU V ord) = true := by
      have hp := pick_perm ho
      have hpl : (pick V.seats ord).length = V.seats.length := hp.length_eq
      unfold mayB
      simp only [Bool.and_eq_true]
      refine ⟨⟨⟨⟨?_, hV.gap⟩, hV.radius⟩, ?_⟩, ?_⟩
      · refine (seatsB_iff _).2 ⟨?_, ?_, fun s hs => hV.seat s (hp.mem_iff.1 hs), pick_rising ho hV.apart⟩
        · show 1 ≤ (pick V.seats ord).length; rw [hpl]; exact hV.one
        · show (pick V.seats ord).length ≤ 4096; rw [hpl]; exact hV.ls
      · refine (killsB_iff _ _).2 ⟨Nat.le_trans (posOf_few ho) hV.lk, fun k hk => ?_, posOf_rising _ _ _⟩
        obtain ⟨j, hj, _, rfl⟩ := (mem_posOf _ _ _ _).1 hk
        unfold isSeatB
        show (decide (0 ≤ (j : Int)) && decide ((j : Int) < ((pick V.seats ord).length : Int))) = true
        rw [hpl]; simp; omega
      · exact (polesB_iff _).2 ⟨hV.lp, hV.pole⟩
    exact ⟨ord, ho, by rw [hr, if_pos hm], hm⟩
end Go.Proofs.YtpkjhlcolgoknaaGreatDoor.Par

namespace Go.Proofs.YtpkjhlcolgoknaaGreatDoor.Par
set_option linter.unusedVariables false
set_option maxRecDepth 100000
open Go.RowKit Go.Extern.Stop Go.Stop Go.Extern

theorem as_nil (t : Value) (w : World) :
    Calls Tryz.prog 49 #[.nilIface, t] w fun e w' => e = .returned (.bool false) ∧ w' = w := by
  go_enter Tryz.func49, Tryz.ntmps49
  go_wp2
  go_ret
  exact ⟨rfl, rfl⟩

theorem w_valueOf85 (t : Addr) (w : World) : (ReflectliteValue.unpack (.iface 110 (.pointer (some t)))).run Tryz.prog w
    = .ok (.agg #[.pointer (some ⟨6, 110, none⟩), .pointer (some ⟨w.heap.size, 0, none⟩), .int .u64 150]) (w.alloc (.cells #[.pointer (some t)] 110)) := by kernel_rfl
theorem w_type85 (a : Addr) (w : World) : (ReflectliteValue.methodAny (ReflectliteValue.valueError "reflectlite.Value.Type" 0) (fun t _ _ _ => ReflectliteType.toType t) #[.agg #[.pointer (some ⟨6, 110, none⟩), .pointer (some a), .int .u64 150]]).run Tryz.prog w
    = .ok (.iface 184 (.agg #[.pointer (some ⟨6, 110, none⟩)])) w := by kernel_rfl
theorem w_methodKind (h : Value) (w : World) : (Go.method 384 184 (.agg #[h]) "Kind").run Tryz.prog w = .ok (202, h) w := by kernel_rfl
theorem w_kind85 (w : World) : ((ReflectliteType.abiMethod fun t => (fun a : Nat => Value.int IntKind.u8 (a : Int)) <$> Rtype.kind t) #[.pointer (some ⟨6, 110, none⟩)]).run Tryz.prog w = .ok (.int .u8 22) w := by kernel_rfl
theorem w_kind41 (w : World) : ((ReflectliteType.abiMethod fun t => (fun a : Nat => Value.int IntKind.u8 (a : Int)) <$> Rtype.kind t) #[.pointer (some ⟨6, 98, none⟩)]).run Tryz.prog w = .ok (.int .u8 25) w := by kernel_rfl

theorem rlm (z : Sem Value) (f : TypeId → Addr → Nat → Nat → Sem Value) (v : Value) :
    ReflectliteValue.method z f #[v] = (do match ← ReflectliteValue.parts v with | none => z | some (t, a, fl) => f t a fl (fl % 32)) := rfl
theorem w_parts85 (a : Addr) (w : World) : (ReflectliteValue.parts (.agg #[.pointer (some ⟨6, 110, none⟩), .pointer (some a), .int .u64 150])).run Tryz.prog w = .ok (some (110, a, 150)) w := by kernel_rfl
theorem w_isNil85 (a p : Addr) (W : World) (ha : W.cell? a = some (.pointer (some p))) :
    (ReflectliteValue.method (ReflectliteValue.valueError "reflectlite.Value.IsNil" 0) ReflectliteValue.isNil #[.agg #[.pointer (some ⟨6, 110, none⟩), .pointer (some a), .int .u64 150]]).run Tryz.prog W = .ok (.bool false) W := by
  rw [rlm]
  simp only [Sem.run_bind, w_parts85, Result.andThen]
  simp [ReflectliteValue.isNil, loadVar, isAgg, underlying, Tryz.underlying110, ha, Result.andThen]

theorem w_methodElem (h : Value) (w : World) : (Go.method 384 184 (.agg #[h]) "Elem").run Tryz.prog w = .ok (216, .agg #[h]) w := by kernel_rfl
theorem w_methodImplements (h : Value) (w : World) : (Go.method 384 184 (.agg #[h]) "Implements").run Tryz.prog w = .ok (217, .agg #[h]) w := by kernel_rfl
theorem w_methodAssignableTo (h : Value) (w : World) : (Go.method 384 184 (.agg #[h]) "AssignableTo").run Tryz.prog w = .ok (214, .agg #[h]) w := by kernel_rfl
theorem w_elem85 (w : World) : (ReflectliteType.method ReflectliteType.elem #[.agg #[.pointer (some ⟨6, 110, none⟩)]]).run Tryz.prog w = .ok (.iface 184 (.agg #[.pointer (some ⟨6, 98, none⟩)])) w := by kernel_rfl
theorem w_implements41 (w : World) : (ReflectliteType.relation "Implements" ReflectliteType.implements_ #[.agg #[.pointer (some ⟨6, 98, none⟩)], .iface 184 (.agg #[.pointer (some ⟨6, 35, none⟩)])]).run Tryz.prog w = .ok (.bool true) w := by kernel_rfl
theorem w_typeOf41 (v : Value) (w : World) : (ReflectliteType.typeOf #[.iface 98 v]).run Tryz.prog w = .ok (.iface 184 (.agg #[.pointer (some ⟨6, 98, none⟩)])) w := by kernel_rfl
theorem w_assignable41 (w : World) : (ReflectliteType.relation "AssignableTo" ReflectliteType.assignableTo #[.agg #[.pointer (some ⟨6, 98, none⟩)], .iface 184 (.agg #[.pointer (some ⟨6, 98, none⟩)])]).run Tryz.prog w = .ok (.bool true) w := by kernel_rfl
theorem w_valueOf41 (c li co : Int) (w : World) : (ReflectliteValue.unpack (wrongV c li co)).run Tryz.prog w
    = .ok (.agg #[.pointer (some ⟨6, 98, none⟩), .pointer (some ⟨w.heap.size, 0, none⟩), .int .u64 153]) (w.alloc (.cells #[.int .i64 c, .int .i64 li, .int .i64 co] 98)) := by kernel_rfl

theorem w_elemOf85 (w : World) : (Rtype.elem? 110).run Tryz.prog w = .ok (some 98) w := by kernel_rfl
theorem w_mk41 (p : Addr) (w : World) : (ReflectliteValue.mk 98 p ReflectliteValue.flagAddr).run Tryz.prog w = .ok (.agg #[.pointer (some ⟨6, 98, none⟩), .pointer (some p), .int .u64 409]) w := by kernel_rfl
theorem w_elemV85 (a p : Addr) (W : World) (ha : W.cell? a = some (.pointer (some p))) :
    (ReflectliteValue.method (ReflectliteValue.valueError "reflectlite.Value.Elem" 0) ReflectliteValue.elem #[.agg #[.pointer (some ⟨6, 110, none⟩), .pointer (some a), .int .u64 150]]).run Tryz.prog W
      = .ok (.agg #[.pointer (some ⟨6, 98, none⟩), .pointer (some p), .int .u64 409]) W := by
  rw [rlm]
  simp only [Sem.run_bind, w_parts85, Result.andThen]
  simp [ReflectliteValue.elem, loadVar, isAgg, underlying, Tryz.underlying110, ha, Result.andThen, w_elemOf85, w_mk41]
theorem rls (v x : Value) : ReflectliteValue.set #[v, x] = (do
    let (some (dst, a, fl), some (src, b, _)) := (← ReflectliteValue.parts v, ← ReflectliteValue.parts x)
      | unsupported (.noEntry "extern/(internal/reflectlite.Value).Set.zeroValue")
    if fl / ReflectliteValue.flagAddr % 2 == 0 then unsupported (.noEntry "extern/(internal/reflectlite.Value).Set.unaddressable")
    let val ← loadVar src b
    if ← Rtype.directlyAssignable dst src then storeVar dst a val
    else if ← Rtype.implements dst src then
      if (← Rtype.kind src) == 20 then
        match val with
        | .nilIface => unsupported (.noEntry "extern/reflectlite: a nil value of one interface type handed on as a value of another")
        | _ => storeVar dst a val
      else storeVar dst a (.iface src val)
    else panicString ("reflectlite.Set: value of type " ++ (← Rtype.spelt src) ++ " is not assignable to type " ++ (← Rtype.spelt dst))
    pure (.tuple #[])) := rfl
theorem w_parts41a (a : Addr) (w : World) : (ReflectliteValue.parts (.agg #[.pointer (some ⟨6, 98, none⟩), .pointer (some a), .int .u64 409])).run Tryz.prog w = .ok (some (98, a, 409)) w := by kernel_rfl
theorem w_parts41 (a : Addr) (w : World) : (ReflectliteValue.parts (.agg #[.pointer (some ⟨6, 98, none⟩), .pointer (some a), .int .u64 153])).run Tryz.prog w = .ok (some (98, a, 153)) w := by kernel_rfl
theorem w_direct41 (w : World) : (Rtype.directlyAssignable 98 98).run Tryz.prog w = .ok true w := by kernel_rfl
theorem w_agg41 (w : World) : (isAgg 98).run Tryz.prog w = .ok true w := by kernel_rfl
theorem w_size41 (w : World) : (sizeOf 98).run Tryz.prog w = .ok 3 w := by kernel_rfl
theorem w_set41 (tb b : Nat) (o0 o1 o2 : Value) (c li co : Int) (W : World) (h0 : W.cell? ⟨b, 0, none⟩ = some (.int .i64 c)) (h1 : W.cell? ⟨b, 1, none⟩ = some (.int .i64 li)) (h2 : W.cell? ⟨b, 2, none⟩ = some (.int .i64 co))
    (hB : Ven.Box W tb 98 #[o0, o1, o2]) :
    (ReflectliteValue.set #[.agg #[.pointer (some ⟨6, 98, none⟩), .pointer (some ⟨tb, 0, none⟩), .int .u64 409], .agg #[.pointer (some ⟨6, 98, none⟩), .pointer (some ⟨b, 0, none⟩), .int .u64 153]]).run Tryz.prog W
      = .ok (.tuple #[]) (((W.setCell ⟨tb, 0, none⟩ (.int .i64 c)).setCell ⟨tb, 1, none⟩ (.int .i64 li)).setCell ⟨tb, 2, none⟩ (.int .i64 co)) := by
  have c0 := hB.cell 0 _ rfl
  have c1 := hB.cell 1 _ rfl
  have c2 := hB.cell 2 _ rfl
  have f0 := hB.frozen 0
  have f1 := hB.frozen 1
  have f2 := hB.frozen 2
  have c0' : W.cell? ⟨tb, 0, none⟩ = some o0 := c0
  have b1 := hB.set 0 (.int .i64 c)
  have b2 := b1.set 1 (.int .i64 li)
  have d1 : (W.setCell ⟨tb, 0, none⟩ (.int .i64 c)).cell? ⟨tb, 1, none⟩ = some o1 := b1.cell 1 _ rfl
  have d2 : ((W.setCell ⟨tb, 0, none⟩ (.int .i64 c)).setCell ⟨tb, 1, none⟩ (.int .i64 li)).cell? ⟨tb, 2, none⟩ = some o2 := b2.cell 2 _ rfl
  have g1 := b1.frozen 1
  have g2 := b2.frozen 2
  have ag := w_agg41
  have sz := w_size41
  have di := w_direct41
  rw [rls]
  simp only [Sem.run_bind, w_parts41a, w_parts41, Result.andThen]
  simp [ReflectliteValue.flagAddr, loadVar, ag, sz, h0, h1, h2, Result.andThen, di, storeVar, go_sem]
  simp only [c0', f0]
  simp only [Bool.false_eq_true, if_false, d1, g1, d2, g2]

set_option maxHeartbeats 4000000 in
theorem as_wrong (c li co : Int) (tb : Nat) (o0 o1 o2 : Value) (w : World) (hg : w.cell? ⟨0, 0, none⟩ = some (.iface 184 (.agg #[.pointer (some ⟨6, 35, none⟩)]))) (hT : Ven.Box w tb 98 #[o0, o1, o2]) :
    Calls Tryz.prog 49 #[wrongV c li co, .iface 110 (.pointer (some ⟨tb, 0, none⟩))] w fun ev w' => ev = .returned (.bool true) ∧ w' = ((((((w.alloc (.cells #[.pointer (some ⟨tb, 0, none⟩)] 110)).alloc (.cells #[.pointer (some ⟨6, 110, none⟩), .pointer (some ⟨w.heap.size, 0, none⟩), .int .u64 150] 143)).alloc (.cells #[.pointer (some ⟨6, 110, none⟩), .pointer (some ⟨w.heap.size, 0, none⟩), .int .u64 150] 143)).alloc (.cells #[.int .i64 c, .int .i64 li, .int .i64 co] 98)).setCell ⟨tb, 0, none⟩ (.int .i64 c)).setCell ⟨tb, 1, none⟩ (.int .i64 li)).setCell ⟨tb, 2, none⟩ (.int .i64 co) := by
  have h6 := @run_callFunc_extern Tryz.prog 83 _ (fun args => ReflectliteValue.unpack (args.getD 0 (.tuple #[]))) Tryz.func83 (by kernel_rfl) (by kernel_rfl) (by kernel_rfl) (by kernel_rfl)
  have h7 := @run_callFunc_extern Tryz.prog 84 _ (ReflectliteValue.methodAny (ReflectliteValue.valueError "reflectlite.Value.Type" 0) (fun t _ _ _ => ReflectliteType.toType t)) Tryz.func84 (by kernel_rfl) (by kernel_rfl) (by kernel_rfl) (by kernel_rfl)
  have h8 := @run_callFunc_extern Tryz.prog 85 _ (ReflectliteValue.method (ReflectliteValue.valueError "reflectlite.Value.IsNil" 0) ReflectliteValue.isNil) Tryz.func85 (by kernel_rfl) (by kernel_rfl) (by kernel_rfl) (by kernel_rfl)
  have h27 := @run_callFunc_extern Tryz.prog 202 _ (ReflectliteType.abiMethod fun t => do pure (.int .u8 (← Rtype.kind t))) Tryz.func202 (by kernel_rfl) (by kernel_rfl) (by kernel_rfl) (by kernel_rfl)
  have h37 := @run_callFunc_extern Tryz.prog 216 _ (ReflectliteType.method ReflectliteType.elem) Tryz.func216 (by kernel_rfl) (by kernel_rfl) (by kernel_rfl) (by kernel_rfl)
  have h38 := @run_callFunc_extern Tryz.prog 217 _ (ReflectliteType.relation "Implements" ReflectliteType.implements_) Tryz.func217 (by kernel_rfl) (by kernel_rfl) (by kernel_rfl) (by kernel_rfl)
  have h10 := @run_callFunc_extern Tryz.prog 117 _ ReflectliteType.typeOf Tryz.func117 (by kernel_rfl) (by kernel_rfl) (by kernel_rfl) (by kernel_rfl)
  have h35 := @run_callFunc_extern Tryz.prog 214 _ (ReflectliteType.relation "AssignableTo" ReflectliteType.assignableTo) Tryz.func214 (by kernel_rfl) (by kernel_rfl) (by kernel_rfl) (by kernel_rfl)
  have h11 := @run_callFunc_extern Tryz.prog 118 _ (ReflectliteValue.method (ReflectliteValue.valueError "reflectlite.Value.Elem" 0) ReflectliteValue.elem) Tryz.func118 (by kernel_rfl) (by kernel_rfl) (by kernel_rfl) (by kernel_rfl)
  have h12 := @run_callFunc_extern Tryz.prog 119 _ ReflectliteValue.set Tryz.func119 (by kernel_rfl) (by kernel_rfl) (by kernel_rfl) (by kernel_rfl)
  have tO := w_typeOf41
  have mA := w_methodAssignableTo
  have a25 := w_assignable41
  have v25 := w_valueOf41
  have f6 := w_valueOf85
  have f7 := w_type85
  have mK := w_methodKind
  have mE := w_methodElem
  have mI := w_methodImplements
  have k27 := w_kind85
  have k25 := w_kind41
  have e27 := w_elem85
  have i25 := w_implements41
  have n8 := w_isNil85 ⟨w.heap.size, 0, none⟩ ⟨tb, 0, none⟩ ((w.alloc (.cells #[.pointer (some ⟨tb, 0, none⟩)] 110)).alloc (.cells #[.pointer (some ⟨6, 110, none⟩), .pointer (some ⟨w.heap.size, 0, none⟩), .int .u64 150] 143)) (by simp)
  have hlt : 0 < w.heap.size := by
    rcases Nat.eq_zero_or_pos w.heap.size with h0 | h
    · simp [World.cell?, h0] at hg
    · exact h
  have hg2 : ((w.alloc (.cells #[.pointer (some ⟨tb, 0, none⟩)] 110)).alloc (.cells #[.pointer (some ⟨6, 110, none⟩), .pointer (some ⟨w.heap.size, 0, none⟩), .int .u64 150] 143)).cell? ⟨0, 0, none⟩ = some (.iface 184 (.agg #[.pointer (some ⟨6, 35, none⟩)])) := by
    rw [World.cell?_alloc_lt _ _ ⟨0, 0, none⟩ (by simp), World.cell?_alloc_lt _ _ ⟨0, 0, none⟩ hlt]; exact hg
  have htl := hT.lt
  have el := w_elemV85 ⟨w.heap.size, 0, none⟩ ⟨tb, 0, none⟩ (((w.alloc (.cells #[.pointer (some ⟨tb, 0, none⟩)] 110)).alloc (.cells #[.pointer (some ⟨6, 110, none⟩), .pointer (some ⟨w.heap.size, 0, none⟩), .int .u64 150] 143)).alloc (.cells #[.pointer (some ⟨6, 110, none⟩), .pointer (some ⟨w.heap.size, 0, none⟩), .int .u64 150] 143)) (by rw [World.cell?_alloc_lt _ _ ⟨w.heap.size, 0, none⟩ (by simp; omega)]; simp)
  have hB4 : Below w.heap.size w ((((w.alloc (.cells #[.pointer (some ⟨tb, 0, none⟩)] 110)).alloc (.cells #[.pointer (some ⟨6, 110, none⟩), .pointer (some ⟨w.heap.size, 0, none⟩), .int .u64 150] 143)).alloc (.cells #[.pointer (some ⟨6, 110, none⟩), .pointer (some ⟨w.heap.size, 0, none⟩), .int .u64 150] 143)).alloc (.cells #[.int .i64 c, .int .i64 li, .int .i64 co] 98)) := ((((Below.refl _ w).alloc (Nat.le_refl _) _).alloc (by simp) _).alloc (by simp; omega) _).alloc (by simp; omega) _
  have st := w_set41 tb (w.heap.size + 1 + 1 + 1) o0 o1 o2 c li co ((((w.alloc (.cells #[.pointer (some ⟨tb, 0, none⟩)] 110)).alloc (.cells #[.pointer (some ⟨6, 110, none⟩), .pointer (some ⟨w.heap.size, 0, none⟩), .int .u64 150] 143)).alloc (.cells #[.pointer (some ⟨6, 110, none⟩), .pointer (some ⟨w.heap.size, 0, none⟩), .int .u64 150] 143)).alloc (.cells #[.int .i64 c, .int .i64 li, .int .i64 co] 98))
    (by rw [World.cell?_alloc_at _ _ _ _ (by simp)]; rfl)
    (by rw [World.cell?_alloc_at _ _ _ _ (by simp)]; rfl)
    (by rw [World.cell?_alloc_at _ _ _ _ (by simp)]; rfl)
    (hT.next hB4)
  clear hB4 hT
  go_enter Tryz.func49, Tryz.ntmps49
  go_wp2
  refine wp_loop_rounds 1 ?_
  rw [rounds_succ]
  go_wp2
  go_ret
  exact ⟨rfl, rfl⟩
end Go.Proofs.YtpkjhlcolgoknaaGreatDoor.Par

namespace Go.Proofs.YtpkjhlcolgoknaaGreatDoor.Par
set_option linter.unusedVariables false
set_option maxRecDepth 100000
open Go.RowKit Go.Shelf
open Go.Proofs.YtpkjhlcolgoknaaGreatDoor.Ven (Seat Pole Ven Box venV venZ VenOwn NormTo normU IsOrder mayB)
open Go.Proofs.YtpkjhlcolgoknaaGreatDoor.Flt (Et I64 Chain)

theorem Et.next {w w' : World} (t : Et w) (h : Below w.heap.size w w') : Et w' := t.below h t.pos
set_option maxHeartbeats 1000000 in
theorem ask_nil (w : World) : Calls Tryz.prog 26 #[.nilIface] w fun e w' => e = .returned (.tuple #[.int .i64 0, .agg #[.int .i64 0, .int .i64 0]]) ∧ Below w.heap.size w w' := by
  go_enter Tryz.func26, Tryz.ntmps26
  go_wp2_with fail
  refine (as_nil _ _).mono ?_
  rintro e w1 ⟨rfl, rfl⟩
  go_wp2_with fail
  refine bodyPost_ret (v := .tuple #[.int .i64 0, .agg #[.int .i64 0, .int .i64 0]]) (by simp [results, Tryz.results26, go_sem]) rfl ?_
  refine ⟨rfl, ?_⟩
  exact ((Below.refl _ w).alloc (Nat.le_refl _) _).alloc (by simp) _
set_option maxHeartbeats 1000000 in
theorem ask_wrong (c li co : Int) (w : World) (hE : Et w) : Calls Tryz.prog 26 #[wrongV c li co] w fun e w' => e = .returned (.tuple #[.int .i64 c, .agg #[.int .i64 li, .int .i64 co]]) ∧ Below w.heap.size w w' := by
  have hB : Below w.heap.size w ((w.alloc (.cells #[.int .i64 0, .int .i64 0] 27)).alloc (.cells #[.int .i64 0, .int .i64 0, .int .i64 0] 98)) := ((Below.refl _ w).alloc (Nat.le_refl _) _).alloc (by simp) _
  have hT : Box ((w.alloc (.cells #[.int .i64 0, .int .i64 0] 27)).alloc (.cells #[.int .i64 0, .int .i64 0, .int .i64 0] 98)) (w.heap.size + 1) 98 #[.int .i64 0, .int .i64 0, .int .i64 0] := by
    have := Box.fresh (w.alloc (.cells #[.int .i64 0, .int .i64 0] 27)) 98 #[.int .i64 0, .int .i64 0, .int .i64 0]
    rw [World.size_alloc] at this; exact this
  have hS : Box ((w.alloc (.cells #[.int .i64 0, .int .i64 0] 27)).alloc (.cells #[.int .i64 0, .int .i64 0, .int .i64 0] 98)) w.heap.size 27 #[.int .i64 0, .int .i64 0] := (Box.fresh w _ _).next ((Below.refl _ _).alloc (Nat.le_refl _) _)
  have hcall := as_wrong c li co (w.heap.size + 1) _ _ _ _ (Et.next hE hB) hT
  have HB : Hid (Below w.heap.size w ((w.alloc (.cells #[.int .i64 0, .int .i64 0] 27)).alloc (.cells #[.int .i64 0, .int .i64 0, .int .i64 0] 98))) := hB
  clear hE hB
  go_enter Tryz.func26, Tryz.ntmps26
  go_wp2_with fail
  refine hcall.mono ?_
  rintro e w1 ⟨rfl, hw1⟩
  clear hcall
  generalize hW : (w.alloc (.cells #[.int .i64 0, .int .i64 0] 27)).alloc (.cells #[.int .i64 0, .int .i64 0, .int .i64 0] 98) = W at hw1 hT hS HB
  have hB4 := ((((Below.refl _ W).alloc (Nat.le_refl _) (.cells #[.pointer (some ⟨w.heap.size + 1, 0, none⟩)] 110)).alloc (by simp) (.cells #[.pointer (some ⟨6, 110, none⟩), .pointer (some ⟨W.heap.size, 0, none⟩), .int .u64 150] 143)).alloc (by simp; omega) (.cells #[.pointer (some ⟨6, 110, none⟩), .pointer (some ⟨W.heap.size, 0, none⟩), .int .u64 150] 143)).alloc (by simp; omega) (.cells #[.int .i64 c, .int .i64 li, .int .i64 co] 98)
  have t4 := hT.next hB4
  have s4 := hS.next hB4
  have hB5 := HB.out.trans (hB4.mono HB.out.size)
  have t5 := ((t4.set 0 (.int .i64 c)).set 1 (.int .i64 li)).set 2 (.int .i64 co)
  have s5 := ((s4.other (w.heap.size + 1) 0 (by omega) (.int .i64 c)).other (w.heap.size + 1) 1 (by omega) (.int .i64 li)).other (w.heap.size + 1) 2 (by omega) (.int .i64 co)
  have b5 := Below.setCell (Below.setCell (Below.setCell hB5 (p := ⟨w.heap.size + 1, 0, none⟩) (by simp) (.int .i64 c)) (p := ⟨w.heap.size + 1, 1, none⟩) (by simp) (.int .i64 li)) (p := ⟨w.heap.size + 1, 2, none⟩) (by simp) (.int .i64 co)
  rw [← hw1] at t5 s5 b5
  have HB5 : Hid (Below w.heap.size w w1) := b5
  have c0 : w1.cell? ⟨w.heap.size + 1, 0, none⟩ = some (.int .i64 c) := t5.cell 0 _ rfl
  have c1 : w1.cell? ⟨w.heap.size + 1, 1, none⟩ = some (.int .i64 li) := t5.cell 1 _ rfl
  have c2 : w1.cell? ⟨w.heap.size + 1, 2, none⟩ = some (.int .i64 co) := t5.cell 2 _ rfl
  have d0 := s5.cell 0 _ rfl
  have d1 := s5.cell 1 _ rfl
  have f0 := s5.frozen 0
  have f1 := s5.frozen 1
  have dl := s5.lt
  have cl := t5.lt
  clear hw1 hW hT hS hB4 t4 s4 hB5 t5 s5 b5 HB
  go_wp2_with fail
  go_region
  all_goals
    go_wp2_with fail
    refine bodyPost_ret (v := .tuple #[.int .i64 c, .agg #[.int .i64 li, .int .i64 co]]) (by simp [results, Tryz.results26, go_sem, d0, d1]) rfl ?_
    refine ⟨rfl, ?_⟩
    exact (Below.setCell (Below.setCell HB5.out (by simp) _) (by simp) _).drew
/-- A code and its place: of a venue, none. -/
def codeOf : Except (Int × Int × Int) Ven → Int × Int × Int
  | .error p => p
  | .ok _ => (0, 0, 0)
set_option maxHeartbeats 1000000 in
theorem check_of (l : List UInt8) (w : World) (err : Value) (c li co : Int)
    (hr : Calls Tryz.prog 25 #[.string ⟨l.toArray⟩] (w.alloc (.cells #[.int .i64 0, .int .i64 0] 27)) fun e w' => (∃ b1 m1 d1 gap rad b2 m2 d2 b3 m3 d3, e = .returned (.tuple #[venV b1 m1 d1 gap rad b2 m2 d2 b3 m3 d3, err])) ∧ Below (w.alloc (.cells #[.int .i64 0, .int .i64 0] 27)).heap.size (w.alloc (.cells #[.int .i64 0, .int .i64 0] 27)) w')
    (ha : ∀ W, Below w.heap.size w W → Calls Tryz.prog 26 #[err] W fun e w' => e = .returned (.tuple #[.int .i64 c, .agg #[.int .i64 li, .int .i64 co]]) ∧ Below W.heap.size W w') :
    Calls Tryz.prog 13 #[.string ⟨l.toArray⟩] w fun e w' => e = .returned (.tuple #[.int .i64 c, .agg #[.int .i64 li, .int .i64 co]]) ∧ Below w.heap.size w w' := by
  have hS := Box.fresh w 27 #[.int .i64 0, .int .i64 0]
  have HB : Hid (Below w.heap.size w (w.alloc (.cells #[.int .i64 0, .int .i64 0] 27))) := (Below.refl _ w).alloc (Nat.le_refl _) _
  have HA : Hid (∀ W, Below w.heap.size w W → Calls Tryz.prog 26 #[err] W fun e w' => e = .returned (.tuple #[.int .i64 c, .agg #[.int .i64 li, .int .i64 co]]) ∧ Below W.heap.size W w') := ha
  clear ha
  go_enter Tryz.func13, Tryz.ntmps13
  go_wp2_with fail
  refine hr.mono ?_
  rintro e w1 ⟨⟨b1, m1, d1, gap, rad, b2, m2, d2, b3, m3, d3, rfl⟩, hb1⟩
  have HS1 : Hid (Box w1 w.heap.size 27 #[.int .i64 0, .int .i64 0]) := hS.next hb1
  have HB1 : Hid (Below w.heap.size w w1) := HB.out.trans (hb1.mono HB.out.size)
  clear hr hS HB hb1
  go_wp2_with fail
  have hBA : Below w1.heap.size w1 (w1.alloc (.cells #[.slice b1 m1 d1, .int .i64 gap, .int .i64 rad, .slice b2 m2 d2, .slice b3 m3 d3] 33)) := (Below.refl _ w1).alloc (Nat.le_refl _) _
  have hB2 := HB1.out.trans (hBA.mono HB1.out.size)
  refine (HA.out _ hB2).mono ?_
  rintro e w2 ⟨rfl, hb2⟩
  have s2 := (HS1.out.next hBA).next hb2
  have d0 := s2.cell 0 _ rfl
  have d1 := s2.cell 1 _ rfl
  have f0 := s2.frozen 0
  have f1 := s2.frozen 1
  have dl := s2.lt
  have HB2 : Hid (Below w.heap.size w w2) := hB2.trans (hb2.mono hB2.size)
  clear s2 hb2 hB2 hBA HS1 HB1
  go_wp2_with fail
  refine bodyPost_ret (v := .tuple #[.int .i64 c, .agg #[.int .i64 li, .int .i64 co]]) (by simp [results, Tryz.results13, go_sem, d0, d1]) rfl ?_
  refine ⟨rfl, ?_⟩
  exact Below.setCell (Below.setCell HB2.out (by simp) _) (by simp) _
theorem check_any (l : List UInt8) (w : World) (hR : Tok.Rng w) (hE : Et w) :
    Calls Tryz.prog 13 #[.string ⟨l.toArray⟩] w fun e w' => e = .returned (.tuple #[.int .i64 (codeOf (readL l)).1, .agg #[.int .i64 (codeOf (readL l)).2.1, .int .i64 (codeOf (readL l)).2.2]]) ∧ Below w.heap.size w w' := by
  have hB : Below w.heap.size w (w.alloc (.cells #[.int .i64 0, .int .i64 0] 27)) := (Below.refl _ w).alloc (Nat.le_refl _) _
  have hrd := read_any l _ (hR.next hB)
  cases hl : readL l with
  | error p =>
    rw [hl] at hrd
    refine check_of l w (wrongV p.1 p.2.1 p.2.2) p.1 p.2.1 p.2.2 (hrd.mono ?_) (fun W hW => ask_wrong _ _ _ W (Et.next hE hW))
    rintro e w' ⟨rfl, hb⟩
    exact ⟨⟨_, _, _, _, _, _, _, _, _, _, _, rfl⟩, hb⟩
  | ok V =>
    rw [hl] at hrd
    refine check_of l w .nilIface 0 0 0 (hrd.mono ?_) (fun W hW => ask_nil W)
    rintro e w' ⟨⟨li, co, r, hN, hr⟩, hb⟩
    obtain ⟨ord, ho, rfl, hm⟩ := norm_good (readL_good hl) hN
    obtain ⟨b1, m1, d1, b2, m2, d2, b3, m3, d3, rfl, hv⟩ := hr
    exact ⟨⟨_, _, _, _, _, _, _, _, _, _, _, rfl⟩, hb⟩
end Go.Proofs.YtpkjhlcolgoknaaGreatDoor.Par

namespace Go.Proofs.YtpkjhlcolgoknaaGreatDoor.Par
set_option linter.unusedVariables false
set_option maxRecDepth 100000
open Go.RowKit Go.Shelf
open Go.Proofs.YtpkjhlcolgoknaaGreatDoor.Ven (Seat Pole Ven Box venV venZ VenOwn NormTo normU IsOrder mayB)
open Go.Proofs.YtpkjhlcolgoknaaGreatDoor.Flt (Et I64 Chain)

theorem toFault_none (li co : Int) (w : World) : Calls Tryz.prog 27 #[.int .i64 0, .agg #[.int .i64 li, .int .i64 co]] w fun e w' => e = .returned .nilIface ∧ Below w.heap.size w w' := by
  go_enter Tryz.func27, Tryz.ntmps27
  go_wp2_with fail
  refine (Flt.New_none 0 li co (by omega) _).mono ?_
  rintro e w1 ⟨rfl, rfl⟩
  go_wp2
  go_ret
  exact ⟨rfl, (Below.refl _ w).alloc (Nat.le_refl _) _⟩
/-- An error that is a fault of its own. -/
def FaultAt (c li co : Int) (v : Value) (W : World) : Prop := ∃ b, v = .iface 80 (.pointer (some ⟨b, 0, none⟩)) ∧ Box W b 83 #[.int .i64 c, .int .i64 li, .int .i64 co, .nilIface]
theorem FaultAt.next {c li co : Int} {v : Value} {W W' : World} (h : FaultAt c li co v W) (hb : Below W.heap.size W W') : FaultAt c li co v W' := by
  obtain ⟨b, hv, hB⟩ := h
  exact ⟨b, hv, hB.next hb⟩
theorem FaultAt.set {c li co : Int} {v : Value} {W : World} (h : FaultAt c li co v W) {g : Nat} {e : TypeId} {cs : Array Value} (hX : Box W g e cs) (he : 83 ≠ e) (i : Nat) (u : Value) : FaultAt c li co v (W.setCell ⟨g, i, none⟩ u) := by
  obtain ⟨b, hv, hB⟩ := h
  refine ⟨b, hv, hB.other g i (fun hc => ?_) u⟩
  subst hc
  unfold Box at hB hX
  rw [hB] at hX
  exact he (by injection hX with hX; injection hX)
theorem FaultAt.chain {c li co : Int} {v : Value} {W : World} (h : FaultAt c li co v W) (ic : I64 c) (il : I64 li) (io : I64 co) : Chain W v [(c, li, co)] := by
  obtain ⟨b, rfl, hB⟩ := h
  exact ⟨[⟨(b, c, li, co), hB.lt, hB.cell 0 _ rfl, hB.cell 1 _ rfl, hB.cell 2 _ rfl, ic, il, io⟩], ⟨rfl, .nilIface, hB.cell 3 _ rfl, Nat.zero_le _, rfl⟩, rfl⟩
theorem toFault_some (c li co : Int) (hc : 0 < c) (w : World) : Calls Tryz.prog 27 #[.int .i64 c, .agg #[.int .i64 li, .int .i64 co]] w fun e w' => ∃ v, e = .returned v ∧ FaultAt c (max li 0) (max co 0) v w' ∧ Below w.heap.size w w' := by
  go_enter Tryz.func27, Tryz.ntmps27
  go_wp2_with fail
  refine (Flt.New_some c li co hc _).mono ?_
  rintro e w1 ⟨rfl, rfl⟩
  go_wp2
  go_ret
  refine ⟨_, rfl, ⟨_, rfl, ?_⟩, ?_⟩
  · have h := Box.fresh (w.alloc (.cells #[.int .i64 li, .int .i64 co] 27)) 83 #[.int .i64 c, .int .i64 (max li 0), .int .i64 (max co 0), .nilIface]
    rw [World.size_alloc] at h
    exact h
  · exact ((Below.refl _ w).alloc (Nat.le_refl _) _).alloc (by simp) _
set_option maxHeartbeats 4000000 in
theorem venue_of (l : List UInt8) (w : World) (err : Value) (c li co : Int) (G : Value → World → Prop) (E : Value → World → Prop)
    (hE0 : ∀ v W W', E v W → Below W.heap.size W W' → E v W') (hE1 : ∀ v W g cs i u, E v W → Box W g 33 cs → E v (W.setCell ⟨g, i, none⟩ u))
    (hr : Calls Tryz.prog 25 #[.string ⟨l.toArray⟩] (w.alloc (.cells #[.slice none 0 0, .int .i64 0, .int .i64 0, .slice none 0 0, .slice none 0 0] 33)) fun e w' => (∃ b1 m1 d1 gap rad b2 m2 d2 b3 m3 d3, e = .returned (.tuple #[venV b1 m1 d1 gap rad b2 m2 d2 b3 m3 d3, err]) ∧ E (venV b1 m1 d1 gap rad b2 m2 d2 b3 m3 d3) w') ∧ Below (w.alloc (.cells #[.slice none 0 0, .int .i64 0, .int .i64 0, .slice none 0 0, .slice none 0 0] 33)).heap.size (w.alloc (.cells #[.slice none 0 0, .int .i64 0, .int .i64 0, .slice none 0 0, .slice none 0 0] 33)) w')
    (ha : ∀ W, Below w.heap.size w W → Calls Tryz.prog 26 #[err] W fun e w' => e = .returned (.tuple #[.int .i64 c, .agg #[.int .i64 li, .int .i64 co]]) ∧ Below W.heap.size W w')
    (hf : ∀ W, Below w.heap.size w W → Calls Tryz.prog 27 #[.int .i64 c, .agg #[.int .i64 li, .int .i64 co]] W fun e w' => ∃ v, e = .returned v ∧ G v w' ∧ Below W.heap.size W w')
    (hG0 : ∀ v W W', G v W → Below W.heap.size W W' → G v W') (hG1 : ∀ v W g cs i u, G v W → Box W g 33 cs → G v (W.setCell ⟨g, i, none⟩ u)) :
    Calls Tryz.prog 14 #[.string ⟨l.toArray⟩] w fun e w' => (∃ b1 m1 d1 gap rad b2 m2 d2 b3 m3 d3 v, e = .returned (.tuple #[venV b1 m1 d1 gap rad b2 m2 d2 b3 m3 d3, v]) ∧ E (venV b1 m1 d1 gap rad b2 m2 d2 b3 m3 d3) w' ∧ G v w') ∧ Below w.heap.size w w' := by
  have hS := Box.fresh w 33 #[.slice none 0 0, .int .i64 0, .int .i64 0, .slice none 0 0, .slice none 0 0]
  have HB : Hid (Below w.heap.size w (w.alloc (.cells #[.slice none 0 0, .int .i64 0, .int .i64 0, .slice none 0 0, .slice none 0 0] 33))) := (Below.refl _ w).alloc (Nat.le_refl _) _
  have HA : Hid (∀ W, Below w.heap.size w W → Calls Tryz.prog 26 #[err] W fun e w' => e = .returned (.tuple #[.int .i64 c, .agg #[.int .i64 li, .int .i64 co]]) ∧ Below W.heap.size W w') := ha
  have HF : Hid (∀ W, Below w.heap.size w W → Calls Tryz.prog 27 #[.int .i64 c, .agg #[.int .i64 li, .int .i64 co]] W fun e w' => ∃ v, e = .returned v ∧ G v w' ∧ Below W.heap.size W w') := hf
  have HE0 : Hid (∀ v W W', E v W → Below W.heap.size W W' → E v W') := hE0
  have HE1 : Hid (∀ v W g cs i u, E v W → Box W g 33 cs → E v (W.setCell ⟨g, i, none⟩ u)) := hE1
  have HG0 : Hid (∀ v W W', G v W → Below W.heap.size W W' → G v W') := hG0
  have HG1 : Hid (∀ v W g cs i u, G v W → Box W g 33 cs → G v (W.setCell ⟨g, i, none⟩ u)) := hG1
  clear ha hf hE0 hE1 hG0 hG1
  go_enter Tryz.func14, Tryz.ntmps14
  go_wp2_with fail
  refine hr.mono ?_
  rintro e w1 ⟨⟨b1, m1, d1, gap, rad, b2, m2, d2, b3, m3, d3, rfl, hEv⟩, hb1⟩
  have HS1 : Hid (Box w1 w.heap.size 33 #[.slice none 0 0, .int .i64 0, .int .i64 0, .slice none 0 0, .slice none 0 0]) := hS.next hb1
  have HB1 : Hid (Below w.heap.size w w1) := HB.out.trans (hb1.mono HB.out.size)
  have HEV : Hid (E (venV b1 m1 d1 gap rad b2 m2 d2 b3 m3 d3) w1) := hEv
  clear hr hS HB hb1 hEv
  go_wp2_with fail
  have hBA : Below w1.heap.size w1 (w1.alloc (.cells #[.slice b1 m1 d1, .int .i64 gap, .int .i64 rad, .slice b2 m2 d2, .slice b3 m3 d3] 33)) := (Below.refl _ w1).alloc (Nat.le_refl _) _
  have HW : Hid (∀ W, Below w1.heap.size w1 W → Below w.heap.size w W) := fun W hW => HB1.out.trans (hW.mono HB1.out.size)
  have hv1 := Box.fresh w1 33 #[.slice b1 m1 d1, .int .i64 gap, .int .i64 rad, .slice b2 m2 d2, .slice b3 m3 d3]
  have HS2 : Hid (Box (w1.alloc (.cells #[.slice b1 m1 d1, .int .i64 gap, .int .i64 rad, .slice b2 m2 d2, .slice b3 m3 d3] 33)) w.heap.size 33 #[.slice none 0 0, .int .i64 0, .int .i64 0, .slice none 0 0, .slice none 0 0]) := HS1.out.next hBA
  have HEV2 : Hid (E (venV b1 m1 d1 gap rad b2 m2 d2 b3 m3 d3) (w1.alloc (.cells #[.slice b1 m1 d1, .int .i64 gap, .int .i64 rad, .slice b2 m2 d2, .slice b3 m3 d3] 33))) := HE0.out _ _ _ HEV.out hBA
  have HB2 : Hid (Below w.heap.size w (w1.alloc (.cells #[.slice b1 m1 d1, .int .i64 gap, .int .i64 rad, .slice b2 m2 d2, .slice b3 m3 d3] 33))) := HB1.out.trans (hBA.mono HB1.out.size)
  clear HS1 HEV HW hBA
  generalize w1.alloc (.cells #[.slice b1 m1 d1, .int .i64 gap, .int .i64 rad, .slice b2 m2 d2, .slice b3 m3 d3] 33) = W at hv1 HS2 HEV2 HB2 ⊢
  generalize w1.heap.size = vb at hv1 ⊢
  have HV2 : Hid (Box W vb 33 #[.slice b1 m1 d1, .int .i64 gap, .int .i64 rad, .slice b2 m2 d2, .slice b3 m3 d3]) := hv1
  have y0 := hv1.cell 0 _ rfl
  have y1 := hv1.cell 1 _ rfl
  have y2 := hv1.cell 2 _ rfl
  have y3 := hv1.cell 3 _ rfl
  have y4 := hv1.cell 4 _ rfl
  have yl := hv1.lt
  clear hv1
  have HD : Hid (Below W.heap.size W W.drew) := (Below.refl _ W).drew
  go_region_with (first
    | (go_at_call 26; refine (HA.out _ (HB2.out.drew)).mono ?_; rintro e w3 ⟨rfl, hb3⟩; have HB3 : Hid (Below w.heap.size w w3) := (HB2.out.drew).trans (hb3.mono (HB2.out.drew).size); have HV3 : Hid (Box w3 vb 33 #[.slice b1 m1 d1, .int .i64 gap, .int .i64 rad, .slice b2 m2 d2, .slice b3 m3 d3]) := (HV2.out.next HD.out).next hb3; have HS3 : Hid (Box w3 w.heap.size 33 #[.slice none 0 0, .int .i64 0, .int .i64 0, .slice none 0 0, .slice none 0 0]) := (HS2.out.next HD.out).next hb3; have HE3 : Hid (E (venV b1 m1 d1 gap rad b2 m2 d2 b3 m3 d3) w3) := HE0.out _ _ _ (HE0.out _ _ _ HEV2.out HD.out) hb3; have z := HV3.out; have y0 := z.cell 0 _ rfl; have y1 := z.cell 1 _ rfl; have y2 := z.cell 2 _ rfl; have y3 := z.cell 3 _ rfl; have y4 := z.cell 4 _ rfl; have yl := z.lt; clear z hb3)
    | (go_at_call 27; refine (HF.out _ HB3.out).mono ?_; rintro e w4 ⟨v4, rfl, hg4, hb4⟩; have HB4 : Hid (Below w.heap.size w w4) := HB3.out.trans (hb4.mono HB3.out.size); have HS4 : Hid (Box w4 w.heap.size 33 #[.slice none 0 0, .int .i64 0, .int .i64 0, .slice none 0 0, .slice none 0 0]) := HS3.out.next hb4; have HE4 : Hid (E (venV b1 m1 d1 gap rad b2 m2 d2 b3 m3 d3) w4) := HE0.out _ _ _ HE3.out hb4; have HG4 : Hid (G v4 w4) := hg4; have z := HV3.out.next hb4; have y0 := z.cell 0 _ rfl; have y1 := z.cell 1 _ rfl; have y2 := z.cell 2 _ rfl; have y3 := z.cell 3 _ rfl; have y4 := z.cell 4 _ rfl; have yl := z.lt; have q := HS4.out; have x0 := q.cell 0 _ rfl; have f0 := q.frozen 0; have x1 := q.cell 1 _ rfl; have f1 := q.frozen 1; have x2 := q.cell 2 _ rfl; have f2 := q.frozen 2; have x3 := q.cell 3 _ rfl; have f3 := q.frozen 3; have x4 := q.cell 4 _ rfl; have f4 := q.frozen 4; have xl := q.lt; clear z q hb4 hg4))
  all_goals
    go_wp2_with fail
    refine bodyPost_ret (v := .tuple #[venV b1 m1 d1 gap rad b2 m2 d2 b3 m3 d3, v4]) (by simp [results, Tryz.results14, go_sem, x0, x1, x2, x3, x4]) rfl ?_
    have k0 := HS4.out
    have k1 := k0.set 0 (.slice b1 m1 d1)
    have k2 := k1.set 1 (.int .i64 gap)
    have k3 := k2.set 2 (.int .i64 rad)
    have k4 := k3.set 3 (.slice b2 m2 d2)
    refine ⟨⟨b1, m1, d1, gap, rad, b2, m2, d2, b3, m3, d3, v4, rfl, ?_, ?_⟩, ?_⟩
    · exact HE1.out _ _ _ _ 4 _ (HE1.out _ _ _ _ 3 _ (HE1.out _ _ _ _ 2 _ (HE1.out _ _ _ _ 1 _ (HE1.out _ _ _ _ 0 _ HE4.out k0) k1) k2) k3) k4
    · exact HG1.out _ _ _ _ 4 _ (HG1.out _ _ _ _ 3 _ (HG1.out _ _ _ _ 2 _ (HG1.out _ _ _ _ 1 _ (HG1.out _ _ _ _ 0 _ HG4.out k0) k1) k2) k3) k4
    · exact Below.setCell (Below.setCell (Below.setCell (Below.setCell (Below.setCell HB4.out (by simp) _) (by simp) _) (by simp) _) (by simp) _) (by simp) _
/-- What Venue hands back. -/
def VenTo (w : World) (o : Except (Int × Int × Int) Ven) (e : Ending) (w' : World) : Prop :=
  (match o with
  | .error p => ∃ v, e = .returned (.tuple #[venZ, v]) ∧ FaultAt p.1 (max p.2.1 0) (max p.2.2 0) v w'
  | .ok V => ∃ ord, IsOrder V.seats ord ∧ mayB (normU V ord) = true ∧ ∃ b1 m1 d1 b2 m2 d2 b3 m3 d3, e = .returned (.tuple #[venV b1 m1 d1 V.gap V.radius b2 m2 d2 b3 m3 d3, .nilIface]) ∧ VenOwn w' b1 m1 d1 b2 m2 d2 b3 m3 d3 (normU V ord)) ∧ Below w.heap.size w w'
theorem venue_any (l : List UInt8) (w : World) (hR : Tok.Rng w) (hE : Et w) (hp : ∀ p, readL l = .error p → 0 < p.1) :
    Calls Tryz.prog 14 #[.string ⟨l.toArray⟩] w fun e w' => VenTo w (readL l) e w' := by
  have hB : Below w.heap.size w (w.alloc (.cells #[.slice none 0 0, .int .i64 0, .int .i64 0, .slice none 0 0, .slice none 0 0] 33)) := (Below.refl _ w).alloc (Nat.le_refl _) _
  have hrd := read_any l _ (hR.next hB)
  cases hl : readL l with
  | error p =>
    rw [hl] at hrd
    have hp0 := hp p hl
    refine (venue_of l w (wrongV p.1 p.2.1 p.2.2) p.1 p.2.1 p.2.2 (fun v W => FaultAt p.1 (max p.2.1 0) (max p.2.2 0) v W) (fun v _ => v = venZ) (fun _ _ _ h _ => h) (fun _ _ _ _ _ _ h _ => h) (hrd.mono ?_) (fun W hW => ask_wrong _ _ _ W (Et.next hE hW)) (fun W hW => toFault_some _ _ _ hp0 W) (fun _ _ _ h hb => h.next hb) (fun _ _ _ _ i u h hX => h.set hX (by decide) i u)).mono ?_
    · rintro e w' ⟨rfl, hb⟩
      exact ⟨⟨_, _, _, _, _, _, _, _, _, _, _, rfl, rfl⟩, hb⟩
    · rintro e w' ⟨⟨b1, m1, d1, gap, rad, b2, m2, d2, b3, m3, d3, v, rfl, hz, hf⟩, hb⟩
      exact ⟨⟨v, by rw [hz], hf⟩, hb⟩
  | ok V =>
    rw [hl] at hrd
    refine (venue_of l w .nilIface 0 0 0 (fun v _ => v = .nilIface) (fun v W => ∃ ord, IsOrder V.seats ord ∧ mayB (normU V ord) = true ∧ ∃ b1 m1 d1 b2 m2 d2 b3 m3 d3, v = venV b1 m1 d1 V.gap V.radius b2 m2 d2 b3 m3 d3 ∧ VenOwn W b1 m1 d1 b2 m2 d2 b3 m3 d3 (normU V ord)) ?_ ?_ (hrd.mono ?_) (fun W hW => ask_nil W) (fun W hW => (toFault_none 0 0 W).mono fun e w' ⟨he, hb⟩ => ⟨_, he, rfl, hb⟩) (fun _ _ _ h _ => h) (fun _ _ _ _ _ _ h _ => h)).mono ?_
    · rintro v W W' ⟨ord, ho, hm, b1, m1, d1, b2, m2, d2, b3, m3, d3, hv, hU⟩ hb
      exact ⟨ord, ho, hm, b1, m1, d1, b2, m2, d2, b3, m3, d3, hv, hU.next hb⟩
    · rintro v W g cs i u ⟨ord, ho, hm, b1, m1, d1, b2, m2, d2, b3, m3, d3, hv, hU⟩ hX
      exact ⟨ord, ho, hm, b1, m1, d1, b2, m2, d2, b3, m3, d3, hv, hU.set hX (by decide) (by decide) (by decide) i u⟩
    · rintro e w' ⟨⟨li, co, r, hN, hr⟩, hb⟩
      obtain ⟨ord, ho, rfl, hm⟩ := norm_good (readL_good hl) hN
      obtain ⟨b1, m1, d1, b2, m2, d2, b3, m3, d3, rfl, hv⟩ := hr
      exact ⟨⟨_, _, _, _, _, _, _, _, _, _, _, rfl, ord, ho, hm, b1, m1, d1, b2, m2, d2, b3, m3, d3, rfl, hv⟩, hb⟩
    · rintro e w' ⟨⟨b1, m1, d1, gap, rad, b2, m2, d2, b3, m3, d3, v, rfl, ⟨ord, ho, hm, a1, n1, c1, a2, n2, c2, a3, n3, c3, hv, hU⟩, hf⟩, hb⟩
      subst hf
      exact ⟨⟨ord, ho, hm, a1, n1, c1, a2, n2, c2, a3, n3, c3, by rw [hv], hU⟩, hb⟩
end Go.Proofs.YtpkjhlcolgoknaaGreatDoor.Par
