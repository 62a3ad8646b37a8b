/- FaultNone's walk: it answers true at any two codes. -/
import Derived.Test.YtiidgekembgdcaaDoorTold
namespace Go.Proofs.YtiidgekembgdcaaDoor
open Go.RowKit Go.Shelf

set_option maxRecDepth 100000 in
set_option maxHeartbeats 4000000 in
theorem none_neg (a b : Int) (ha : a ≤ 0) (w : World) (hg : Et w) (hp : Pow w) :
    Calls Tryd.prog 5 #[.int .i64 a, .int .i64 b] w fun e w' => e = .returned (.bool true) ∧ Below w.heap.size w w' := by
  go_enter Tryd.func5, Tryd.ntmps5
  go_wp2_with fail
  refine (Wrap_same .nilIface a ha _).mono ?_
  rintro e w1 ⟨rfl, rfl⟩
  go_wp2_with fail
  refine (told_any _ hg hp).mono ?_
  rintro e w2 ⟨rfl, hb⟩
  go_wp2
  go_ret
  exact ⟨rfl, hb⟩

set_option maxRecDepth 100000 in
set_option maxHeartbeats 4000000 in
theorem none_pos_neg (a b : Int) (ha : 0 < a) (ia : I64 a) (hb0 : b ≤ 0) (w : World) (hg : Et w) (hp : Pow w) :
    Calls Tryd.prog 5 #[.int .i64 a, .int .i64 b] w fun e w' => e = .returned (.bool true) ∧ Below w.heap.size w w' := by
  have p0 : Past w w := Below.refl _ _
  have hh : hasCode [(a, 0, 0)] a = true := by simp [hasCode]
  have HH : Hid (hasCode [(a, 0, 0)] a = true) := hh
  clear hh
  go_enter Tryd.func5, Tryd.ntmps5
  go_wp2_with fail
  refine (Wrap_chain .nilIface [] a ha ia _ (Chain.nil _)).mono ?_
  rintro e w1 ⟨va, rfl, ca, hb⟩
  have p1 := p0.next hb
  have t1 : Tri w1 va va va [(a, 0, 0)] [(a, 0, 0)] [(a, 0, 0)] := ⟨hg.next hb, hp.below hb, ca, ca, ca⟩
  clear hb p0 hg hp ca
  obtain ⟨pa, rfl⟩ := t1.a.head
  go_wp2_with fail
  refine (Wrap_same _ b hb0 _).mono ?_
  rintro e w2 ⟨rfl, rfl⟩
  go_wp2_with fail
  refine (told_any _ t1.et t1.pow).mono ?_
  rintro e w3 ⟨rfl, hb⟩
  have p3 := p1.next hb
  have t3 := t1.next hb
  clear hb p1 t1
  go_wp2_with fail
  refine (callsIn_wide.1 (Depth_in 3 (by omega) _ _ _ t3.et t3.a (by simp))).mono ?_
  rintro e w4 ⟨rfl, hb⟩
  have p4 := p3.next hb
  have t4 := t3.next hb
  clear hb p3 t3
  go_wp2_with fail
  refine (callsIn_wide.1 (Code_in 3 (by omega) _ _ _ _ t4.et t4.a)).mono ?_
  rintro e w5 ⟨rfl, hb⟩
  have p5 := p4.next hb
  have t5 := t4.next hb
  clear hb p4 t4
  go_wp2_with fail
  refine (callsIn_wide.1 (Spot_in 3 (by omega) _ _ _ t5.et t5.a)).mono ?_
  rintro e w6 ⟨rfl, hb⟩
  have p6 := p5.next hb
  have t6 := t5.next hb
  clear hb p5 t5
  go_wp2_with fail
  refine (callsIn_wide.1 (Depth_in 3 (by omega) _ _ _ t6.et t6.a (by simp))).mono ?_
  rintro e w7 ⟨rfl, hb⟩
  have p7 := p6.next hb
  have t7 := t6.next hb
  clear hb p6 t6
  go_wp2_with fail
  refine (callsIn_wide.1 (Is_in 3 (by omega) _ _ a ha _ t7.et t7.a)).mono ?_
  rintro e w8 ⟨rfl, hb⟩
  have p8 := p7.next hb
  clear hb p7 t7
  rw [HH.out]
  go_wp2
  go_ret
  exact ⟨rfl, p8⟩
set_option maxRecDepth 100000 in
set_option maxHeartbeats 4000000 in
theorem none_pos_pos (a b : Int) (ha : 0 < a) (ia : I64 a) (hb0 : 0 < b) (ib : I64 b) (w : World) (hg : Et w) (hp : Pow w) :
    Calls Tryd.prog 5 #[.int .i64 a, .int .i64 b] w fun e w' => e = .returned (.bool true) ∧ Below w.heap.size w w' := by
  have p0 : Past w w := Below.refl _ _
  have hh : hasCode [(b, 0, 0), (a, 0, 0)] a = true := by simp [hasCode]
  have HH : Hid (hasCode [(b, 0, 0), (a, 0, 0)] a = true) := hh
  clear hh
  go_enter Tryd.func5, Tryd.ntmps5
  go_wp2_with fail
  refine (Wrap_chain .nilIface [] a ha ia _ (Chain.nil _)).mono ?_
  rintro e w1 ⟨va, rfl, ca, hb⟩
  have p1 := p0.next hb
  have t1 : Tri w1 va va va [(a, 0, 0)] [(a, 0, 0)] [(a, 0, 0)] := ⟨hg.next hb, hp.below hb, ca, ca, ca⟩
  clear hb p0 hg hp ca
  obtain ⟨pa, rfl⟩ := t1.a.head
  go_wp2_with fail
  refine (Wrap_chain _ _ b hb0 ib _ t1.a).mono ?_
  rintro e w2 ⟨vb, rfl, cb, hb⟩
  have p2 := p1.next hb
  have t2 : Tri w2 _ vb vb [(a, 0, 0)] [(b, 0, 0), (a, 0, 0)] [(b, 0, 0), (a, 0, 0)] := ⟨t1.et.next hb, t1.pow.below hb, t1.a.below hb, cb, cb⟩
  clear hb p1 t1 cb
  go_wp2_with fail
  refine (told_any _ t2.et t2.pow).mono ?_
  rintro e w3 ⟨rfl, hb⟩
  have p3 := p2.next hb
  have t3 := t2.next hb
  clear hb p2 t2
  go_wp2_with fail
  refine (callsIn_wide.1 (Depth_in 3 (by omega) _ _ _ t3.et t3.a (by simp))).mono ?_
  rintro e w4 ⟨rfl, hb⟩
  have p4 := p3.next hb
  have t4 := t3.next hb
  clear hb p3 t3
  go_wp2_with fail
  refine (callsIn_wide.1 (Code_in 3 (by omega) _ _ _ _ t4.et t4.a)).mono ?_
  rintro e w5 ⟨rfl, hb⟩
  have p5 := p4.next hb
  have t5 := t4.next hb
  clear hb p4 t4
  go_wp2_with fail
  refine (callsIn_wide.1 (Spot_in 3 (by omega) _ _ _ t5.et t5.b)).mono ?_
  rintro e w6 ⟨rfl, hb⟩
  have p6 := p5.next hb
  have t6 := t5.next hb
  clear hb p5 t5
  go_wp2_with fail
  refine (callsIn_wide.1 (Depth_in 3 (by omega) _ _ _ t6.et t6.b (by simp))).mono ?_
  rintro e w7 ⟨rfl, hb⟩
  have p7 := p6.next hb
  have t7 := t6.next hb
  clear hb p6 t6
  go_wp2_with fail
  refine (callsIn_wide.1 (Is_in 3 (by omega) _ _ a ha _ t7.et t7.b)).mono ?_
  rintro e w8 ⟨rfl, hb⟩
  have p8 := p7.next hb
  clear hb p7 t7
  rw [HH.out]
  go_wp2
  go_ret
  exact ⟨rfl, p8⟩

theorem none_any (a b : Int) (ia : I64 a) (ib : I64 b) (w : World) (hg : Et w) (hp : Pow w) :
    Calls Tryd.prog 5 #[.int .i64 a, .int .i64 b] w fun e w' => e = .returned (.bool true) ∧ Below w.heap.size w w' := by
  by_cases ha : a ≤ 0
  · exact none_neg a b ha w hg hp
  · by_cases hb : b ≤ 0
    · exact none_pos_neg a b (by omega) ia hb w hg hp
    · exact none_pos_pos a b (by omega) ia (by omega) ib w hg hp
end Go.Proofs.YtiidgekembgdcaaDoor
