/- geom.those with the closure of Near. -/
import Derived.Test.YtbmmjbklfheghaaGClN
namespace Go.Proofs.Ytbmmjbklfheghaa.Geo
set_option linter.unusedVariables false
set_option maxRecDepth 100000
open Go.RowKit Go.Shelf
open Go.Proofs.Ytbmmjbklfheghaa.Ven (Seat Pole Ven VenAt venV seatV seatC intC Box mayB mixed SeatAt Cells below_alloc coordB standsB ret_bool ret_int BelowOf info3 row_next row_slice)

set_option maxHeartbeats 2000000 in
theorem those_near (a1 a2 a3 : Option Addr) (n1 c1 n2 c2 n3 c3 : Nat) (gap rad : Int) (hn : n1 ≤ 4096) (B1 B2 B3 : Nat) (p : Nat → Bool) (w : World)
    (hcl : ∀ W, Below w.heap.size w W → ∀ k : Nat, k < n1 → Calls Try.prog 28 #[.int .i64 k, .pointer (some ⟨B1, 0, none⟩), .pointer (some ⟨B2, 0, none⟩), .pointer (some ⟨B3, 0, none⟩)] W fun e w' => e = .returned (.bool (p k)) ∧ Below W.heap.size W w') :
    Calls Try.prog 27 #[venV a1 n1 c1 gap rad a2 n2 c2 a3 n3 c3, .func (.func 28) #[] #[.pointer (some ⟨B1, 0, none⟩), .pointer (some ⟨B2, 0, none⟩), .pointer (some ⟨B3, 0, none⟩)]] w fun e w' =>
      ∃ v, e = .returned v ∧ w'.ownsRow w.heap.size 3 1 v (thoseN n1 p).length ((thoseN n1 p).flatMap intC) ∧ Below w.heap.size w w' := by
  have hb := below_alloc w (.cells #[.slice a1 n1 c1, .int .i64 gap, .int .i64 rad, .slice a2 n2 c2, .slice a3 n3 c3] 26)
  have hx := Box.fresh w 26 #[.slice a1 n1 c1, .int .i64 gap, .int .i64 rad, .slice a2 n2 c2, .slice a3 n3 c3]
  have v0 := hx.cell 0 _ rfl
  have hr0 : (w.alloc (.cells #[.slice a1 n1 c1, .int .i64 gap, .int .i64 rad, .slice a2 n2 c2, .slice a3 n3 c3] 26)).ownsRow w.heap.size 3 1 (.slice none 0 0) (thoseN 0 p).length ((thoseN 0 p).flatMap intC) := World.ownsRow_nil _ _ _ _
  have HCL := hid' hcl
  have HB0 := hid' hb
  have HR0 := hid' hr0
  clear hb hr0 hcl hx
  go_enter Try.func27, Try.ntmps27
  go_wp2_with fail
  generalize w.alloc (.cells #[.slice a1 n1 c1, .int .i64 gap, .int .i64 rad, .slice a2 n2 c2, .slice a3 n3 c3] 26) = W0 at *
  go_loopw [5, 6, 10] (fun v _ i wr => ∃ k : Nat, k ≤ n1 ∧ i = .int .i64 k ∧ Hid (wr.ownsRow w.heap.size 3 1 v (thoseN k p).length ((thoseN k p).flatMap intC)) ∧ Hid (Below w.heap.size w wr)) (fun _ _ i _ => n1 - (intOf i).toNat)
  case atStart => exact ⟨0, Nat.zero_le _, rfl, HR0, HB0⟩
  case round =>
    clear v0 HR0 HB0
    obtain ⟨k, hk, rfl, HR, HB⟩ := hrel
    by_cases hlt : k < n1
    · have hltz : (k : Int) < (n1 : Int) := by omega
      go_wp2_with fail
      refine (HCL.out wr HB.out k hlt).mono ?_
      rintro e w1 ⟨rfl, hb1⟩
      have HB1 := hid' (HB.out.trans (hb1.mono HB.out.size))
      have HR1 := hid' (row_next HR.out hb1)
      have HS := hid' (thoseN_succ k p)
      clear hb1 HR HB
      generalize p k = pk at HS ⊢
      cases pk with
      | false =>
        have e : thoseN (k + 1) p = thoseN k p := by rw [HS.out]; simp
        rw [← e] at HR1
        clear e
        go_wp2_with fail
        exact ⟨⟨k + 1, by omega, by go_num, HR1, HB1⟩, by simp [intOf]; omega⟩
      | true =>
        have e : thoseN (k + 1) p = thoseN k p ++ [(k : Int)] := by rw [HS.out]; simp
        have hle := thoseN_le k p
        obtain ⟨av, cv, rfl⟩ := row_slice HR1.out
        have HR2 := hid' (row_next HR1.out ((Below.refl _ w1).alloc (Nat.le_refl _) (.cells #[.int .i64 k] 3)))
        have hsz : w.heap.size ≤ (w1.alloc (.cells #[.int .i64 k] 3)).heap.size := by have := HB1.out.size; simp; omega
        obtain ⟨i0, hi, hz0, hz1, hz2⟩ := info3
        go_wp2_with (at_builtin; refine wpList_append_own _ rfl _ _ 23 rfl w.heap.size 3 i0 (.int .i64 0) 1 8 Try.underlying23 hi hz0 hz1 hz2 rfl (by omega) _ _ _ rfl HR2.out ⟨w1.heap.size, 0, none⟩ 1 1 [.int .i64 k] rfl ?qc1 ?qc2 ?qc3 ?qc4 ?qc5 ?qc6 ?_)
        case qc1 => rfl
        case qc2 =>
          intro t u ht
          rw [Addr.add_lit, Nat.zero_add, World.cell?_alloc_at _ _ _ _ rfl]
          show ([Value.int .i64 (k : Int)] : List Value).toArray[t]? = some u
          rw [List.getElem?_toArray]; exact ht
        case qc3 => intro u hu; simp at hu; subst hu; rfl
        case qc4 => unfold maxLen; omega
        case qc5 => omega
        case qc6 => exact hsz
        intro v6 w6 hown6 hgr6 _
        have HB6 := hid' ((HB1.out.alloc HB1.out.size (.cells #[.int .i64 k] 3)).grown hgr6 hsz (fun t ht => (HR2.out.lt t ht).1))
        have hfl : (thoseN (k + 1) p).flatMap intC = (thoseN k p).flatMap intC ++ [.int .i64 k] := by rw [e, List.flatMap_append]; rfl
        have hln : (thoseN (k + 1) p).length = (thoseN k p).length + 1 := by rw [e]; simp
        have HR6 : Hid (w6.ownsRow w.heap.size 3 1 v6 (thoseN (k + 1) p).length ((thoseN (k + 1) p).flatMap intC)) := by
          show w6.ownsRow _ _ _ _ _ _
          rw [hfl, hln]; exact hown6
        clear hown6 hgr6 hfl hln e HR1 HR2 hsz hle
        go_wp2_with fail
        exact ⟨⟨k + 1, by omega, by go_num, HR6, HB6⟩, by simp [intOf]; omega⟩
    · have hltz : ¬ (k : Int) < (n1 : Int) := by omega
      have hkn : k = n1 := by omega
      have HRF : Hid (wr.ownsRow w.heap.size 3 1 u5 (thoseN n1 p).length ((thoseN n1 p).flatMap intC)) := by rw [← hkn]; exact HR
      clear hkn HR
      go_wp2
      go_ret
      exact ⟨_, rfl, HRF.out, HB.out⟩
end Go.Proofs.Ytbmmjbklfheghaa.Geo
