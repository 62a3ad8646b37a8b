/- FaultNew's walk: it answers true at any code, line and column. -/
import Derived.Test.YtiidgekembgdcaaDoorTold
import Derived.Test.YtiidgekembgdcaaDoorDec
namespace Go.Proofs.YtiidgekembgdcaaDoor
open Go.RowKit Go.Shelf

theorem bounded_any (n : Int) (w : World) : Calls Tryd.prog 12 #[.int .i64 n] w fun e w' => e = .returned (.int .i64 (max n 0)) ∧ w' = w := by
  go_enter Tryd.func12, Tryd.ntmps12
  go_wp2
  go_ret
  exact ⟨rfl, rfl⟩

set_option maxRecDepth 100000 in
set_option maxHeartbeats 4000000 in
theorem new_neg (k l c : Int) (hk : k ≤ 0) (w : World) (hg : Et w) (hp : Pow w) :
    Calls Tryd.prog 3 #[.int .i64 k, .int .i64 l, .int .i64 c] w fun e w' => e = .returned (.bool true) ∧ Below w.heap.size w w' := by
  have p0 : Past w w := Below.refl _ _
  go_enter Tryd.func3, Tryd.ntmps3
  go_wp2_with fail
  refine (New_none k l c hk _).mono ?_
  rintro e w1 ⟨rfl, rfl⟩
  go_wp2_with fail
  refine (told_any _ hg hp).mono ?_
  rintro e w2 ⟨rfl, hb⟩
  have p2 := p0.next hb
  have hg2 := hg.next hb
  clear hb p0 hg
  go_wp2_with fail
  refine (callsIn_wide.1 (Code_nil 3 (by omega) _)).mono ?_
  rintro e w3 ⟨rfl, hb⟩
  have p3 := p2.next hb
  have hg3 := hg2.next hb
  clear hb p2 hg2
  go_wp2_with fail
  refine (callsIn_wide.1 (Depth_in 3 (by omega) _ _ _ hg3 (Chain.nil _) (by simp))).mono ?_
  rintro e w4 ⟨rfl, hb⟩
  have p4 := p3.next hb
  clear hb p3 hg3
  go_wp2_with fail
  refine (callsIn_wide.1 (Is_none 3 (by omega) _ k hk _)).mono ?_
  rintro e w5 ⟨rfl, hb⟩
  have p5 := p4.next hb
  clear hb p4
  go_wp2
  go_ret
  exact ⟨rfl, p5⟩

def sText1 (k : Int) : List UInt8 := codeText k ++ [32, 97, 116, 32]
def sText2 (k l : Int) : List UInt8 := sText1 k ++ Lib.itoa l
def sText3 (k l : Int) : List UInt8 := sText2 k l ++ [58]
def sText4 (k l c : Int) : List UInt8 := sText3 k l ++ Lib.itoa c
theorem sText4_eq (k l c : Int) : sText4 k l c = codeText k ++ atText3 l c := by
  simp [sText4, sText3, sText2, sText1, atText3, atText2, atText]
theorem code_add (k : Int) (hk : I64 k) (w : World) : (Op.stringOp .add ⟨#[99, 111, 100, 101, 32]⟩ ⟨(Lib.itoa k).toArray⟩).run Tryd.prog w = .ok (.string ⟨(codeText k).toArray⟩) w :=
  run_string_add_lists w [99, 111, 100, 101, 32] (Lib.itoa k) (by simp) (by have := itoa_len k hk; omega)
theorem sText_add1 (k : Int) (hk : I64 k) (w : World) : (Op.stringOp .add ⟨(codeText k).toArray⟩ ⟨#[32, 97, 116, 32]⟩).run Tryd.prog w = .ok (.string ⟨(sText1 k).toArray⟩) w :=
  run_string_add_lists w (codeText k) [32, 97, 116, 32] (by have := codeText_len k hk; omega) (by simp)
theorem sText_add2 (k l : Int) (hk : I64 k) (hl : I64 l) (w : World) : (Op.stringOp .add ⟨(sText1 k).toArray⟩ ⟨(Lib.itoa l).toArray⟩).run Tryd.prog w = .ok (.string ⟨(sText2 k l).toArray⟩) w :=
  run_string_add_lists w (sText1 k) (Lib.itoa l) (by have := codeText_len k hk; simp [sText1]; omega) (by have := itoa_len l hl; omega)
theorem sText_add3 (k l : Int) (hk : I64 k) (hl : I64 l) (w : World) : (Op.stringOp .add ⟨(sText2 k l).toArray⟩ ⟨#[58]⟩).run Tryd.prog w = .ok (.string ⟨(sText3 k l).toArray⟩) w :=
  run_string_add_lists w (sText2 k l) [58] (by have := codeText_len k hk; have := itoa_len l hl; simp [sText2, sText1]; omega) (by simp)
theorem sText_add4 (k l c : Int) (hk : I64 k) (hl : I64 l) (hc : I64 c) (w : World) : (Op.stringOp .add ⟨(sText3 k l).toArray⟩ ⟨(Lib.itoa c).toArray⟩).run Tryd.prog w = .ok (.string ⟨(sText4 k l c).toArray⟩) w :=
  run_string_add_lists w (sText3 k l) (Lib.itoa c) (by have := codeText_len k hk; have := itoa_len l hl; simp [sText3, sText2, sText1]; omega) (by have := itoa_len c hc; omega)

set_option maxRecDepth 100000 in
set_option maxHeartbeats 4000000 in
theorem new_plain (k l c : Int) (hk : 0 < k) (ik : I64 k) (il : I64 l) (ic : I64 c) (hL : Hid (max l 0 = 0)) (hC : Hid (max c 0 = 0)) (w : World) (hg : Et w) (hp : Pow w) :
    Calls Tryd.prog 3 #[.int .i64 k, .int .i64 l, .int .i64 c] w fun e w' => e = .returned (.bool true) ∧ Below w.heap.size w w' := by
  have p0 : Past w w := Below.refl _ _
  have HT : Hid (textOf [(k, 0, 0)] = codeText k) := by
    show textOf [(k, 0, 0)] = codeText k
    rw [textOf_one]
    rfl
  have HS : Hid (spotOf [(k, 0, 0)] = (0, 0)) := by
    show spotOf [(k, 0, 0)] = (0, 0)
    rfl
  have HH : Hid (hasCode [(k, 0, 0)] k = true) := by
    show hasCode [(k, 0, 0)] k = true
    simp [hasCode]
  have ha0 := code_add k ik
  go_enter Tryd.func3, Tryd.ntmps3
  go_wp2_with fail
  refine (New_chain k l c hk ik il ic _).mono ?_
  rintro e w1 ⟨v, rfl, cv, hb⟩
  rw [hL.out, hC.out] at cv
  have p1 := p0.next hb
  have t1 : Tri w1 v v v [(k, 0, 0)] [(k, 0, 0)] [(k, 0, 0)] := ⟨hg.next hb, hp.below hb, cv, cv, cv⟩
  clear hb p0 hg hp cv
  obtain ⟨pa, rfl⟩ := t1.a.head
  go_wp2_with fail
  refine (bounded_any l _).mono ?_
  rintro e w2 ⟨rfl, rfl⟩
  rw [hL.out]
  go_wp2_with fail
  refine (bounded_any c _).mono ?_
  rintro e w3 ⟨rfl, rfl⟩
  rw [hC.out]
  go_wp2_with fail
  refine (Decimal_nonneg k (by omega) ik.2 _).mono ?_
  rintro e w4 ⟨rfl, rfl⟩
  go_wp2_with fail
  refine (told_any _ t1.et t1.pow).mono ?_
  rintro e w7 ⟨rfl, hb⟩
  have p7 := p1.next hb
  have t7 := t1.next hb
  clear hb p1 t1
  go_wp2_with fail
  refine (callsIn_wide.1 (Code_in 3 (by omega) _ _ _ _ t7.et t7.a)).mono ?_
  rintro e w8 ⟨rfl, hb⟩
  have p8 := p7.next hb
  have t8 := t7.next hb
  clear hb p7 t7
  go_wp2_with fail
  refine (callsIn_wide.1 (Spot_in 3 (by omega) _ _ _ t8.et t8.a)).mono ?_
  rintro e w9 ⟨rfl, hb⟩
  have p9 := p8.next hb
  have t9 := t8.next hb
  clear hb p8 t8
  rw [HS.out]
  go_wp2_with fail
  refine (callsIn_wide.1 (Is_in 3 (by omega) _ _ k hk _ t9.et t9.a)).mono ?_
  rintro e w10 ⟨rfl, hb⟩
  have p10 := p9.next hb
  have t10 := t9.next hb
  clear hb p9 t9
  rw [HH.out]
  go_wp2_with fail
  refine (callsIn_wide.1 (Depth_in 3 (by omega) _ _ _ t10.et t10.a (by simp))).mono ?_
  rintro e w11 ⟨rfl, hb⟩
  have p11 := p10.next hb
  have t11 := t10.next hb
  clear hb p10 t10
  go_wp2_with fail
  refine (callsIn_wide.1 (Text_in 3 (by omega) _ _ _ t11.et t11.pow t11.a (by simp))).mono ?_
  rintro e w12 ⟨rfl, hb⟩
  have p12 := p11.next hb
  have t12 := t11.next hb
  clear hb p11 t11
  rw [HT.out]
  go_wp2
  go_ret
  exact ⟨rfl, p12⟩

set_option maxRecDepth 100000 in
set_option maxHeartbeats 4000000 in
theorem new_line (k l c : Int) (L C : Int) (hk : 0 < k) (ik : I64 k) (il : I64 l) (ic : I64 c) (hL : Hid (max l 0 = L)) (hC : Hid (max c 0 = C)) (hne : (L != 0) = true) (iL : I64 L) (iC : I64 C) (zL : 0 ≤ L) (zC : 0 ≤ C) (w : World) (hg : Et w) (hp : Pow w) :
    Calls Tryd.prog 3 #[.int .i64 k, .int .i64 l, .int .i64 c] w fun e w' => e = .returned (.bool true) ∧ Below w.heap.size w w' := by
  have p0 : Past w w := Below.refl _ _
  have HT : Hid (textOf [(k, L, C)] = sText4 k L C) := by
    show textOf [(k, L, C)] = sText4 k L C
    rw [textOf_one]
    have hpb : placedB L C = true := by simp at hne; simp [placedB, hne]
    rw [sText4_eq]; exact if_pos hpb
  have HS : Hid (spotOf [(k, L, C)] = (L, C)) := by
    show spotOf [(k, L, C)] = (L, C)
    have hpb : placedB L C = true := by simp at hne; simp [placedB, hne]
    exact if_pos hpb
  have HH : Hid (hasCode [(k, L, C)] k = true) := by
    show hasCode [(k, L, C)] k = true
    simp [hasCode]
  have ha0 := code_add k ik
  have ha1 := sText_add1 k ik
  have ha2 := sText_add2 k L ik iL
  have ha3 := sText_add3 k L ik iL
  have ha4 := sText_add4 k L C ik iL iC
  go_enter Tryd.func3, Tryd.ntmps3
  go_wp2_with fail
  refine (New_chain k l c hk ik il ic _).mono ?_
  rintro e w1 ⟨v, rfl, cv, hb⟩
  rw [hL.out, hC.out] at cv
  have p1 := p0.next hb
  have t1 : Tri w1 v v v [(k, L, C)] [(k, L, C)] [(k, L, C)] := ⟨hg.next hb, hp.below hb, cv, cv, cv⟩
  clear hb p0 hg hp cv
  obtain ⟨pa, rfl⟩ := t1.a.head
  go_wp2_with fail
  refine (bounded_any l _).mono ?_
  rintro e w2 ⟨rfl, rfl⟩
  rw [hL.out]
  go_wp2_with fail
  refine (bounded_any c _).mono ?_
  rintro e w3 ⟨rfl, rfl⟩
  rw [hC.out]
  go_wp2_with fail
  refine (Decimal_nonneg k (by omega) ik.2 _).mono ?_
  rintro e w4 ⟨rfl, rfl⟩
  go_wp2_with fail
  refine (Decimal_nonneg L zL iL.2 _).mono ?_
  rintro e w5 ⟨rfl, rfl⟩
  go_wp2_with fail
  refine (Decimal_nonneg C zC iC.2 _).mono ?_
  rintro e w6 ⟨rfl, rfl⟩
  go_wp2_with fail
  refine (told_any _ t1.et t1.pow).mono ?_
  rintro e w7 ⟨rfl, hb⟩
  have p7 := p1.next hb
  have t7 := t1.next hb
  clear hb p1 t1
  go_wp2_with fail
  refine (callsIn_wide.1 (Code_in 3 (by omega) _ _ _ _ t7.et t7.a)).mono ?_
  rintro e w8 ⟨rfl, hb⟩
  have p8 := p7.next hb
  have t8 := t7.next hb
  clear hb p7 t7
  go_wp2_with fail
  refine (callsIn_wide.1 (Spot_in 3 (by omega) _ _ _ t8.et t8.a)).mono ?_
  rintro e w9 ⟨rfl, hb⟩
  have p9 := p8.next hb
  have t9 := t8.next hb
  clear hb p8 t8
  rw [HS.out]
  go_wp2_with fail
  refine (callsIn_wide.1 (Is_in 3 (by omega) _ _ k hk _ t9.et t9.a)).mono ?_
  rintro e w10 ⟨rfl, hb⟩
  have p10 := p9.next hb
  have t10 := t9.next hb
  clear hb p9 t9
  rw [HH.out]
  go_wp2_with fail
  refine (callsIn_wide.1 (Depth_in 3 (by omega) _ _ _ t10.et t10.a (by simp))).mono ?_
  rintro e w11 ⟨rfl, hb⟩
  have p11 := p10.next hb
  have t11 := t10.next hb
  clear hb p10 t10
  go_wp2_with fail
  refine (callsIn_wide.1 (Text_in 3 (by omega) _ _ _ t11.et t11.pow t11.a (by simp))).mono ?_
  rintro e w12 ⟨rfl, hb⟩
  have p12 := p11.next hb
  have t12 := t11.next hb
  clear hb p11 t11
  rw [HT.out]
  go_wp2
  go_ret
  exact ⟨rfl, p12⟩

set_option maxRecDepth 100000 in
set_option maxHeartbeats 4000000 in
theorem new_col (k l c : Int) (C : Int) (hk : 0 < k) (ik : I64 k) (il : I64 l) (ic : I64 c) (hL : Hid (max l 0 = 0)) (hC : Hid (max c 0 = C)) (hne : (C != 0) = true) (iL : I64 0) (iC : I64 C) (zC : 0 ≤ C) (w : World) (hg : Et w) (hp : Pow w) :
    Calls Tryd.prog 3 #[.int .i64 k, .int .i64 l, .int .i64 c] w fun e w' => e = .returned (.bool true) ∧ Below w.heap.size w w' := by
  have p0 : Past w w := Below.refl _ _
  have HT : Hid (textOf [(k, 0, C)] = sText4 k 0 C) := by
    show textOf [(k, 0, C)] = sText4 k 0 C
    rw [textOf_one]
    have hpb : placedB 0 C = true := by simp at hne; simp [placedB, hne]
    rw [sText4_eq]; exact if_pos hpb
  have HS : Hid (spotOf [(k, 0, C)] = (0, C)) := by
    show spotOf [(k, 0, C)] = (0, C)
    have hpb : placedB 0 C = true := by simp at hne; simp [placedB, hne]
    exact if_pos hpb
  have HH : Hid (hasCode [(k, 0, C)] k = true) := by
    show hasCode [(k, 0, C)] k = true
    simp [hasCode]
  have ha0 := code_add k ik
  have ha1 := sText_add1 k ik
  have ha2 := sText_add2 k 0 ik iL
  have ha3 := sText_add3 k 0 ik iL
  have ha4 := sText_add4 k 0 C ik iL iC
  go_enter Tryd.func3, Tryd.ntmps3
  go_wp2_with fail
  refine (New_chain k l c hk ik il ic _).mono ?_
  rintro e w1 ⟨v, rfl, cv, hb⟩
  rw [hL.out, hC.out] at cv
  have p1 := p0.next hb
  have t1 : Tri w1 v v v [(k, 0, C)] [(k, 0, C)] [(k, 0, C)] := ⟨hg.next hb, hp.below hb, cv, cv, cv⟩
  clear hb p0 hg hp cv
  obtain ⟨pa, rfl⟩ := t1.a.head
  go_wp2_with fail
  refine (bounded_any l _).mono ?_
  rintro e w2 ⟨rfl, rfl⟩
  rw [hL.out]
  go_wp2_with fail
  refine (bounded_any c _).mono ?_
  rintro e w3 ⟨rfl, rfl⟩
  rw [hC.out]
  go_wp2_with fail
  refine (Decimal_nonneg k (by omega) ik.2 _).mono ?_
  rintro e w4 ⟨rfl, rfl⟩
  go_wp2_with fail
  refine (Decimal_nonneg 0 (by omega) iL.2 _).mono ?_
  rintro e w5 ⟨rfl, rfl⟩
  go_wp2_with fail
  refine (Decimal_nonneg C zC iC.2 _).mono ?_
  rintro e w6 ⟨rfl, rfl⟩
  go_wp2_with fail
  refine (told_any _ t1.et t1.pow).mono ?_
  rintro e w7 ⟨rfl, hb⟩
  have p7 := p1.next hb
  have t7 := t1.next hb
  clear hb p1 t1
  go_wp2_with fail
  refine (callsIn_wide.1 (Code_in 3 (by omega) _ _ _ _ t7.et t7.a)).mono ?_
  rintro e w8 ⟨rfl, hb⟩
  have p8 := p7.next hb
  have t8 := t7.next hb
  clear hb p7 t7
  go_wp2_with fail
  refine (callsIn_wide.1 (Spot_in 3 (by omega) _ _ _ t8.et t8.a)).mono ?_
  rintro e w9 ⟨rfl, hb⟩
  have p9 := p8.next hb
  have t9 := t8.next hb
  clear hb p8 t8
  rw [HS.out]
  go_wp2_with fail
  refine (callsIn_wide.1 (Is_in 3 (by omega) _ _ k hk _ t9.et t9.a)).mono ?_
  rintro e w10 ⟨rfl, hb⟩
  have p10 := p9.next hb
  have t10 := t9.next hb
  clear hb p9 t9
  rw [HH.out]
  go_wp2_with fail
  refine (callsIn_wide.1 (Depth_in 3 (by omega) _ _ _ t10.et t10.a (by simp))).mono ?_
  rintro e w11 ⟨rfl, hb⟩
  have p11 := p10.next hb
  have t11 := t10.next hb
  clear hb p10 t10
  go_wp2_with fail
  refine (callsIn_wide.1 (Text_in 3 (by omega) _ _ _ t11.et t11.pow t11.a (by simp))).mono ?_
  rintro e w12 ⟨rfl, hb⟩
  have p12 := p11.next hb
  have t12 := t11.next hb
  clear hb p11 t11
  rw [HT.out]
  go_wp2
  go_ret
  exact ⟨rfl, p12⟩

theorem new_any (k l c : Int) (ik : I64 k) (il : I64 l) (ic : I64 c) (w : World) (hg : Et w) (hp : Pow w) :
    Calls Tryd.prog 3 #[.int .i64 k, .int .i64 l, .int .i64 c] w fun e w' => e = .returned (.bool true) ∧ Below w.heap.size w w' := by
  by_cases hk : k ≤ 0
  · exact new_neg k l c hk w hg hp
  · by_cases hL : max l 0 = 0
    · by_cases hC : max c 0 = 0
      · exact new_plain k l c (by omega) ik il ic hL hC w hg hp
      · exact new_col k l c _ (by omega) ik il ic hL rfl (by simpa using hC) I64.zero ic.max0 (by omega) w hg hp
    · exact new_line k l c _ _ (by omega) ik il ic rfl rfl (by simpa using hL) il.max0 ic.max0 (by omega) (by omega) w hg hp
end Go.Proofs.YtiidgekembgdcaaDoor
