/- KillAsks answers true: its walk. -/
import Derived.Test.YtbmmjbklfheghaaKAsksR
import Derived.Test.YtbmmjbklfheghaaKAsksR0
import Derived.Test.YtbmmjbklfheghaaCFew
import Derived.Test.YtbmmjbklfheghaaVMakeA
namespace Go.Proofs.Ytbmmjbklfheghaa.Kll
set_option linter.unusedVariables false
set_option maxRecDepth 100000
open Go.RowKit Go.Shelf
open Go.Proofs.Ytbmmjbklfheghaa.Ven (Seat Pole Ven VenAt venV Box mayB mixed Sl below_alloc mod_u64 intC row_slice row_next info3)
open Go.Proofs.Ytbmmjbklfheghaa.Geo (thoseN thoseN_succ thoseN_le thoseN_zero)
open Go.Proofs.Ytbmmjbklfheghaa.Com (hid' Ints row_base MarksAt MarksV few_any)

set_option maxHeartbeats 16000000 in
theorem asks_law (a1 a2 a3 : Option Addr) (n1 c1 n2 c2 n3 c3 : Nat) (V : Ven) {w0 : World} (h : VenAt w0 a1 n1 c1 a2 n2 c2 a3 n3 c3 V) (kk : Int) (w : World) (hw : w0 = w := by rfl) :
    Calls Try.prog 3 #[venV a1 n1 c1 V.gap V.radius a2 n2 c2 a3 n3 c3, .int .i64 kk] w fun e w' => e = .returned (.bool true) ∧ Below w.heap.size w w' := by
  subst hw
  have hn1 := h.s.len
  subst hn1
  have hb0 := below_alloc w0 (.cells #[.slice a1 V.seats.length c1, .int .i64 V.gap, .int .i64 V.radius, .slice a2 n2 c2, .slice a3 n3 c3] 26)
  have hx := Box.fresh w0 26 #[.slice a1 V.seats.length c1, .int .i64 V.gap, .int .i64 V.radius, .slice a2 n2 c2, .slice a3 n3 c3]
  have few := few_any a1 a2 a3 V.seats.length c1 n2 c2 n3 c3 V _ (h.next hb0)
  have HV := hid' (h.next hb0)
  have HB0 := hid' hb0
  have HX := hid' hx
  have HFW : Hid ((decide (V.seats.length ≤ 40) && (decide (n2 ≤ 40) && decide (n3 ≤ 40))) = true → V.seats.length ≤ 40) := fun h1 => of_decide_eq_true (Bool.and_eq_true_iff.1 h1).1
  obtain ⟨v0, v1, v2, v3, v4⟩ := hx.five
  clear h hb0 hx
  generalize (decide (V.seats.length ≤ 40) && (decide (n2 ≤ 40) && decide (n3 ≤ 40))) = fw at few HFW
  cases fw with
  | false =>
    go_enter Try.func3, Try.ntmps3
    go_wp2_with fail
    refine few.mono ?_
    rintro e w1 ⟨rfl, hb1⟩
    have HB := hid' (HB0.out.trans (hb1.mono HB0.out.size))
    clear few hb1 v0 v1 v2 v3 v4
    go_wp2_with fail
    refine (told_any _).mono ?_
    rintro e w2 ⟨rfl, hb2⟩
    have HF := hid' (HB.out.trans (hb2.mono HB.out.size))
    clear hb2
    go_wp2
    go_ret
    exact ⟨rfl, HF.out⟩
  | true =>
    have hl40 := HFW.out (by trivial)
    go_enter Try.func3, Try.ntmps3
    go_wp2_with fail
    refine few.mono ?_
    rintro e w1 ⟨rfl, hb1⟩
    have HB := hid' (HB0.out.trans (hb1.mono HB0.out.size))
    have HV1 := hid' (HV.out.next hb1)
    have HX1 := hid' (HX.out.next hb1)
    clear few hb1 v0 v1 v2 v3 v4 HB0 HV HX
    obtain ⟨v0, v1, v2, v3, v4⟩ := HX1.out.five
    go_wp2_with fail
    refine (rusable_any _ _ _ _ _ _ _ _ _ V w1 HV1.out).mono ?_
    rintro e w2 ⟨ua, un, uc, rfl, hm, hb2⟩
    have hl := hm.len
    subst hl
    have HB2 := hid' (HB.out.trans (hb2.mono HB.out.size))
    have HV2 := hid' (HV1.out.next hb2)
    have HX2 := hid' (HX1.out.next hb2)
    have HM := hid' hm
    have hfew := usable_few V
    clear hm hb2 v0 v1 v2 v3 v4 HB HV1 HX1
    go_wp2_with fail
    go_loopw [6, 7] (fun v i wr => ∃ k : Nat, k ≤ (usableL V).length ∧ i = .int .i64 k ∧ Hid (Ints w2.heap.size wr v (thoseN k (deadN V))) ∧ Hid (Below w2.heap.size w2 wr)) (fun _ i _ => (usableL V).length - (intOf i).toNat)
    case atStart => exact ⟨0, Nat.zero_le _, rfl, Com.Ints.nil _ _, Below.refl _ _⟩
    case round =>
      obtain ⟨k, hk, rfl, HR, HB⟩ := hrel
      by_cases hlt : k < (usableL V).length
      · have hltz : (k : Int) < ((usableL V).length : Int) := by omega
        obtain ⟨ub, uo, rfl, hu1, hu2⟩ := (HM.out.next HB.out).at k hlt
        rw [usable_get hlt] at hu2
        have HN := hid' (thoseN_succ k (deadN V))
        have HLL := hid' (thoseN_le k (deadN V))
        have hll : (thoseN k (deadN V)).length ≤ 4096 := by have := HLL.out; omega
        clear HLL hu1
        generalize thoseN k (deadN V) = l at *
        generalize hq : thoseN (k + 1) (deadN V) = l2 at *
        have HQ := hid' hq
        clear hq
        cases hd : deadN V k with
        | true =>
          rw [hd] at hu2
          have HT2 : Hid (l2 = l ++ [(k : Int)]) := by
            have := HN.out
            rw [hd, if_pos rfl] at this; exact this
          clear HN hd
          obtain ⟨av, cv, rfl⟩ := row_slice HR.out
          have HR2 := hid' (row_next HR.out ((Below.refl _ wr).alloc (Nat.le_refl _) (.cells #[.int .i64 (k : Int)] 3)))
          have hsz : w2.heap.size ≤ (wr.alloc (.cells #[.int .i64 (k : Int)] 3)).heap.size := by have := HB.out.size; simp; omega
          have HB1 := hid' (HB.out.alloc HB.out.size (.cells #[.int .i64 (k : Int)] 3))
          obtain ⟨i0, hi0, hz0, hz1, hz2⟩ := info3
          go_wp2_with (at_builtin; refine wpList_append_own _ rfl _ _ 23 rfl w2.heap.size 3 i0 (.int .i64 0) 1 8 Try.underlying23 hi0 hz0 hz1 hz2 rfl (by omega) _ _ _ rfl HR2.out ⟨wr.heap.size, 0, none⟩ 1 1 [.int .i64 (k : Int)] rfl ?qc1 ?qc2 ?qc3 ?qc4 ?qc5 ?qc6 ?_)
          case qc1 => rfl
          case qc2 =>
            intro t z ht
            rw [Addr.add_lit, Nat.zero_add, World.cell?_alloc_at _ _ _ _ rfl]
            show ([Value.int .i64 (k : Int)] : List Value).toArray[t]? = some z
            rw [List.getElem?_toArray]; exact ht
          case qc3 => intro z hz; simp at hz; subst hz; rfl
          case qc4 => unfold maxLen; omega
          case qc5 => omega
          case qc6 => exact hsz
          intro v6 w6 hown6 hgr6 _
          have HB6 := hid' (HB1.out.grown hgr6 hsz (fun t ht => (HR2.out.lt t ht).1))
          have HR6 : Hid (Ints w2.heap.size w6 v6 (l ++ [(k : Int)])) := by
            show w6.ownsRow _ _ _ _ _ _
            rw [List.flatMap_append, List.length_append]; exact hown6
          clear hown6 hgr6 HR HR2 hsz HB HB1 hu2
          go_wp2_with fail
          exact ⟨⟨k + 1, by omega, by go_num, (show Ints _ _ _ _ by rw [HQ.out, HT2.out]; exact HR6.out), HB6⟩, by simp [intOf]; omega⟩
        | false =>
          rw [hd] at hu2
          have HT2 : Hid (l2 = l) := by
            have := HN.out
            rw [hd, if_neg (by decide)] at this; exact this
          clear HN hd
          go_wp2_with fail
          exact ⟨⟨k + 1, by omega, by go_num, (show Ints _ _ _ _ by rw [HQ.out, HT2.out]; exact HR.out), HB⟩, by simp [intOf]; omega⟩
      · have hltz : ¬ (k : Int) < ((usableL V).length : Int) := by omega
        have hkn : k = (usableL V).length := by omega
        have HKL : Hid (Sl 1 intC wr u6 (killedL V)) := by
          have := HR.out.sl
          rw [hkn, those_usable] at this
          exact this
        have HBW := hid' (HB2.out.trans (HB.out.mono HB2.out.size))
        have HVW := hid' (HV2.out.next HB.out)
        have HXW := hid' (HX2.out.next HB.out)
        have HMW := hid' (HM.out.next HB.out)
        obtain ⟨la, lc, hla, _⟩ := Com.Sl.form HKL.out
        subst hla
        clear HR hkn HB HM
        generalize hUL : usableL V = UL at *
        generalize hKE : killedL V = KL at *
        have HUL := hid' hUL
        have HKE := hid' hKE
        clear hUL hKE
        by_cases h0 : V.seats.length = 0
        · go_wp2_with fail
          refine asks_region0 _ wr rfl w0.heap.size a1 a2 a3 ua la V.seats.length c1 n2 c2 n3 c3 UL.length uc KL.length lc V.gap V.radius kk UL KL (byB V kk) (hid' h0) HXW.out HMW.out HKL.out rfl rfl rfl rfl ?_ ?_ ?_ ?_ ?_ ?_
          · intro w hw; exact told_any w
          · intro w hw
            refine (usable_any _ _ _ _ _ _ _ _ _ V w (HVW.out.next hw)).mono ?_
            rintro e w' ⟨a, n, c, rfl, h1, h2⟩
            rw [HUL.out] at h1
            exact ⟨_, rfl, ⟨a, n, c, rfl, h1⟩, h2⟩
          · intro w hw
            have := killed_any _ _ _ _ _ _ _ _ _ V w (HVW.out.next hw)
            rw [HKE.out] at this; exact this
          · intro w hw; exact by_any _ _ _ _ _ _ _ _ _ V kk w (HVW.out.next hw)
          · intro w hw
            refine (rby_any _ _ _ _ _ _ _ _ _ V kk w (HVW.out.next hw)).mono ?_
            rintro e w' ⟨v, rfl, h1, h2⟩
            exact ⟨v, rfl, h1.sl, h2⟩
          intro w4 r0 r1 r2 r3 hb4
          have HF := hid' (HBW.out.trans (hb4.mono HBW.out.size))
          clear hb4
          simp only [Ven.putAll, List.setIfInBounds_toArray, List.set_cons_succ, List.set_cons_zero]
          go_wp2
          go_ret
          exact ⟨rfl, HF.out⟩
        · obtain ⟨j, hj, ej⟩ := mod_u64 kk V.seats.length (by omega)
          go_wp2_with fail
          refine asks_region _ wr rfl w0.heap.size a1 a2 a3 ua la V.seats.length c1 n2 c2 n3 c3 UL.length uc KL.length lc j V.gap V.radius kk UL KL (byB V kk) (byB V j) (by omega) (by omega) hj ej HXW.out HMW.out HKL.out rfl rfl rfl rfl ?_ ?_ ?_ ?_ ?_ ?_ ?_ ?_
          · intro w hw; exact told_any w
          · intro w hw
            refine (usable_any _ _ _ _ _ _ _ _ _ V w (HVW.out.next hw)).mono ?_
            rintro e w' ⟨a, n, c, rfl, h1, h2⟩
            rw [HUL.out] at h1
            exact ⟨_, rfl, ⟨a, n, c, rfl, h1⟩, h2⟩
          · intro w hw
            have := killed_any _ _ _ _ _ _ _ _ _ V w (HVW.out.next hw)
            rw [HKE.out] at this; exact this
          · intro w hw; exact by_any _ _ _ _ _ _ _ _ _ V kk w (HVW.out.next hw)
          · intro w hw
            refine (rby_any _ _ _ _ _ _ _ _ _ V kk w (HVW.out.next hw)).mono ?_
            rintro e w' ⟨v, rfl, h1, h2⟩
            exact ⟨v, rfl, h1.sl, h2⟩
          · intro w hw; exact by_any _ _ _ _ _ _ _ _ _ V j w (HVW.out.next hw)
          · intro w hw
            refine (rby_any _ _ _ _ _ _ _ _ _ V j w (HVW.out.next hw)).mono ?_
            rintro e w' ⟨v, rfl, h1, h2⟩
            exact ⟨v, rfl, h1.sl, h2⟩
          intro w4 r0 r1 r2 r3 r4 r5 hb4
          have HF := hid' (HBW.out.trans (hb4.mono HBW.out.size))
          clear hb4
          simp only [Ven.putAll, List.setIfInBounds_toArray, List.set_cons_succ, List.set_cons_zero]
          go_wp2
          go_ret
          exact ⟨rfl, HF.out⟩
end Go.Proofs.Ytbmmjbklfheghaa.Kll
