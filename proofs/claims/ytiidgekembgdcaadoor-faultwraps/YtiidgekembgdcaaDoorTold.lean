/- The told examples of the statements' package: told answers true. -/
import Derived.Test.YtiidgekembgdcaaDoorTextB
namespace Go.Proofs.YtiidgekembgdcaaDoor
open Go.RowKit Go.Shelf

theorem Chain.head {w : World} {v : Value} {k : Int × Int × Int} {ks : List (Int × Int × Int)} (h : Chain w v (k :: ks)) : ∃ p, v = .iface 41 (.pointer (some p)) := by
  obtain ⟨xs, hl, hm⟩ := h
  cases xs with
  | nil => simp at hm
  | cons x r => exact ⟨_, hl.1⟩

/-- What stands in a world: the two tables, and three chains. -/
structure Tri (w : World) (a b c : Value) (ka kb kc : List (Int × Int × Int)) : Prop where
  et : Et w
  pow : Pow w
  a : Chain w a ka
  b : Chain w b kb
  c : Chain w c kc
theorem Tri.next {w w' : World} {a b c : Value} {ka kb kc : List (Int × Int × Int)} (t : Tri w a b c ka kb kc) (h : Below w.heap.size w w') : Tri w' a b c ka kb kc :=
  ⟨t.et.below h t.et.pos, t.pow.below h, t.a.below h, t.b.below h, t.c.below h⟩
theorem Et.next {w w' : World} (t : Et w) (h : Below w.heap.size w w') : Et w' := t.below h t.pos
/-- A world behind another one. -/
def Past (w w' : World) : Prop := Below w.heap.size w w'
theorem Past.next {a b c : World} (h : Past a b) (k : Below b.heap.size b c) : Past a c := h.trans (k.mono h.size)

theorem I64.small {n : Int} (h0 : -1000 ≤ n) (h1 : n ≤ 1000) : I64 n := by unfold I64; omega
theorem itoa_one (n : Nat) (h : n < 10) : Lib.itoa (n : Int) = [UInt8.ofNat (48 + n)] := by
  rw [Lib.itoa_nonneg, Lib.decDigits_one h]
theorem toldText : textOf [(1, 0, 0), (2, 3, 4)] = [99, 111, 100, 101, 32, 49, 58, 32, 99, 111, 100, 101, 32, 50, 32, 97, 116, 32, 51, 58, 52] := by
  have e1 := itoa_one 1 (by omega)
  have e2 := itoa_one 2 (by omega)
  have e3 := itoa_one 3 (by omega)
  have e4 := itoa_one 4 (by omega)
  simp at e1 e2 e3 e4
  simp [textOf, oneText, placedB, codeText, atText3, atText2, atText, e1, e2, e3, e4]

set_option maxRecDepth 100000 in
set_option maxHeartbeats 4000000 in
theorem told_any (w : World) (hg : Et w) (hp : Pow w) :
    Calls Tryd.prog 8 #[] w fun e w' => e = .returned (.bool true) ∧ Below w.heap.size w w' := by
  have p0 : Past w w := Below.refl _ _
  have hT : (textOf [(1, 0, 0), (2, 3, 4)]).toArray = #[99, 111, 100, 101, 32, 49, 58, 32, 99, 111, 100, 101, 32, 50, 32, 97, 116, 32, 51, 58, 52] := by rw [toldText]
  have HT : Hid ((textOf [(1, 0, 0), (2, 3, 4)]).toArray = #[99, 111, 100, 101, 32, 49, 58, 32, 99, 111, 100, 101, 32, 50, 32, 97, 116, 32, 51, 58, 52]) := hT
  clear hT
  go_enter Tryd.func8, Tryd.ntmps8
  go_wp2_with fail
  refine (New_chain 2 3 4 (by omega) (I64.small (by omega) (by omega)) (I64.small (by omega) (by omega)) (I64.small (by omega) (by omega)) _).mono ?_
  rintro e w1 ⟨va, rfl, ca, hb⟩
  have p1 := p0.next hb
  have hg1 := hg.next hb
  have hp1 := hp.below hb
  clear hb p0 hg hp
  go_wp2_with fail
  refine (Wrap_chain va _ 1 (by omega) (I64.small (by omega) (by omega)) _ ca).mono ?_
  rintro e w2 ⟨vb, rfl, cb, hb⟩
  have p2 := p1.next hb
  have hg2 := hg1.next hb
  have hp2 := hp1.below hb
  replace ca := ca.below hb
  clear hb p1 hg1 hp1
  go_wp2_with fail
  refine (Wrap_chain .nilIface [] 5 (by omega) (I64.small (by omega) (by omega)) _ (Chain.nil _)).mono ?_
  rintro e w3 ⟨vc, rfl, cc, hb⟩
  have p3 := p2.next hb
  have t3 : Tri w3 va vb vc [(2, 3, 4)] [(1, 0, 0), (2, 3, 4)] [(5, 0, 0)] := ⟨hg2.next hb, hp2.below hb, ca.below hb, cb.below hb, cc⟩
  clear hb p2 hg2 hp2 ca cb cc
  obtain ⟨pa, rfl⟩ := t3.a.head
  obtain ⟨pb, rfl⟩ := t3.b.head
  obtain ⟨pc, rfl⟩ := t3.c.head
  go_wp2_with fail
  refine (New_none 0 1 1 (by omega) _).mono ?_
  rintro e w4 ⟨rfl, rfl⟩
  go_wp2_with fail
  refine (callsIn_wide.1 (Code_in 3 (by omega) _ _ _ _ t3.et t3.a)).mono ?_
  rintro e w5 ⟨rfl, hb⟩
  have t5 := t3.next hb
  have p5 := p3.next hb
  clear hb t3 p3
  go_wp2_with fail
  refine (callsIn_wide.1 (Code_in 3 (by omega) _ _ _ _ t5.et t5.b)).mono ?_
  rintro e w6 ⟨rfl, hb⟩
  have t6 := t5.next hb
  have p6 := p5.next hb
  clear hb t5 p5
  go_wp2_with fail
  refine (callsIn_wide.1 (Code_nil 3 (by omega) _)).mono ?_
  rintro e w7 ⟨rfl, hb⟩
  have t7 := t6.next hb
  have p7 := p6.next hb
  clear hb t6 p6
  go_wp2_with fail
  refine (callsIn_wide.1 (Spot_in 3 (by omega) _ _ _ t7.et t7.b)).mono ?_
  rintro e w8 ⟨rfl, hb⟩
  have t8 := t7.next hb
  have p8 := p7.next hb
  clear hb t7 p7
  go_wp2_with fail
  refine (callsIn_wide.1 (Spot_in 3 (by omega) _ _ _ t8.et t8.c)).mono ?_
  rintro e w9 ⟨rfl, hb⟩
  have t9 := t8.next hb
  have p9 := p8.next hb
  clear hb t8 p8
  go_wp2_with fail
  refine (callsIn_wide.1 (Is_in 3 (by omega) _ _ 2 (by omega) _ t9.et t9.b)).mono ?_
  rintro e w10 ⟨rfl, hb⟩
  have t10 := t9.next hb
  have p10 := p9.next hb
  clear hb t9 p9
  go_wp2_with fail
  refine (callsIn_wide.1 (Is_in 3 (by omega) _ _ 1 (by omega) _ t10.et t10.b)).mono ?_
  rintro e w11 ⟨rfl, hb⟩
  have t11 := t10.next hb
  have p11 := p10.next hb
  clear hb t10 p10
  go_wp2_with fail
  refine (callsIn_wide.1 (Is_in 3 (by omega) _ _ 3 (by omega) _ t11.et t11.b)).mono ?_
  rintro e w12 ⟨rfl, hb⟩
  have t12 := t11.next hb
  have p12 := p11.next hb
  clear hb t11 p11
  go_wp2_with fail
  refine (callsIn_wide.1 (Is_none 3 (by omega) _ 0 (by omega) _)).mono ?_
  rintro e w13 ⟨rfl, hb⟩
  have t13 := t12.next hb
  have p13 := p12.next hb
  clear hb t12 p12
  go_wp2_with fail
  refine (callsIn_wide.1 (Depth_in 3 (by omega) _ _ _ t13.et t13.b (by simp))).mono ?_
  rintro e w14 ⟨rfl, hb⟩
  have t14 := t13.next hb
  have p14 := p13.next hb
  clear hb t13 p13
  go_wp2_with fail
  refine (callsIn_wide.1 (Depth_in 3 (by omega) _ _ _ t14.et (Chain.nil _) (by simp))).mono ?_
  rintro e w15 ⟨rfl, hb⟩
  have t15 := t14.next hb
  have p15 := p14.next hb
  clear hb t14 p14
  go_wp2_with fail
  refine (callsIn_wide.1 (Text_in 3 (by omega) _ _ _ t15.et t15.pow t15.b (by simp))).mono ?_
  rintro e w16 ⟨rfl, hb⟩
  have t16 := t15.next hb
  have p16 := p15.next hb
  clear hb t15 p15
  rw [HT.out]
  go_wp2_with fail
  refine (callsIn_wide.1 (Text_in 3 (by omega) _ _ _ t16.et t16.pow (Chain.nil _) (by simp))).mono ?_
  rintro e w17 ⟨rfl, hb⟩
  have t17 := t16.next hb
  have p17 := p16.next hb
  clear hb t16 p16
  go_wp2_with fail
  refine (callsIn_wide.1 (Code_in 3 (by omega) _ _ _ _ t17.et t17.c)).mono ?_
  rintro e w18 ⟨rfl, hb⟩
  have t18 := t17.next hb
  have p18 := p17.next hb
  clear hb t17 p17
  go_wp2
  go_ret
  exact ⟨rfl, p18⟩
end Go.Proofs.YtiidgekembgdcaaDoor
