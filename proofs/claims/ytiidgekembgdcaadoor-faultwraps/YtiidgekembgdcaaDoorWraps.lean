/- FaultWraps' walk: it answers true at any code, place and codes around it. -/
import Derived.Test.YtiidgekembgdcaaDoorWrapsR
import Derived.Test.YtiidgekembgdcaaDoorDepth
import Derived.Test.YtiidgekembgdcaaDoorNew
namespace Go.Proofs.YtiidgekembgdcaaDoor
open Go.RowKit Go.Shelf

theorem wch_I64 (base : Int × Int × Int) (p : List Int) (hb : I64 base.1 ∧ I64 base.2.1 ∧ I64 base.2.2) (hp : ∀ x ∈ p, I64 x) : ∀ x ∈ wch base p, I64 x.1 ∧ I64 x.2.1 ∧ I64 x.2.2 := by
  intro x hx
  unfold wch at hx
  rcases List.mem_append.1 hx with h | h
  · obtain ⟨y, hy, rfl⟩ := List.mem_map.1 h
    have : y ∈ p := (List.mem_filter.1 (List.mem_reverse.1 hy)).1
    exact ⟨hp y this, I64.zero, I64.zero⟩
  · obtain rfl := List.mem_singleton.1 h
    exact hb
theorem Code_top (tp : Int) (v : Value) (base : Int × Int × Int) (p : List Int) (w : World) (hg : Et w) (hc : Chain w v (wch base p)) (ht : tp = topOf (wch base p)) :
    Calls Tryd.prog 9 #[v] w fun e W' => e = .returned (.int .i64 tp) ∧ Below w.heap.size w W' := by
  obtain ⟨y, r, e⟩ := wch_cons base p
  rw [e] at hc ht
  rw [ht]
  exact callsIn_wide.1 (Code_in 3 (by omega) v y r w hg hc)

set_option maxRecDepth 100000 in
set_option maxHeartbeats 4000000 in
theorem wraps_long (q l c : Int) (ao : Option Addr) (len cap : Nat) (il : I64 l) (ic : I64 c) (hlen : 12 < len) (hm : len ≤ 9223372036854775807) (w : World) (hg : Et w) (hp : Pow w) :
    Calls Tryd.prog 4 #[.int .i64 q, .int .i64 l, .int .i64 c, .slice ao len cap] w fun e w' => e = .returned (.bool true) ∧ Below w.heap.size w w' := by
  obtain ⟨a, ha, ea⟩ := small_mod q 1000 (by omega) (by omega)
  have ea' : wrap64 (1 + (a : Int)) = 1 + a := wrap64_small _ (by omega) (by omega)
  have HE : Hid (wrap64 ((IntKind.u64.wrap q).tmod 1000) = a ∧ wrap64 (1 + (a : Int)) = 1 + a) := ⟨ea, ea'⟩
  clear ea ea'
  have p0 : Past w w := Below.refl _ _
  go_enter Tryd.func4, Tryd.ntmps4
  go_wp2_with fail
  simp only [HE.out.1, HE.out.2]
  generalize hk1 : 1 + (a : Int) = k
  have bk0 : 1 ≤ k := by omega
  have bk1 : k ≤ 1000 := by omega
  clear hk1
  refine (New_chain k l c (by omega) (I64.small (by omega) (by omega)) il ic _).mono ?_
  rintro e w1 ⟨v, rfl, cv, hb⟩
  have p1 := p0.next hb
  have hg1 := hg.next hb
  have hp1 := hp.below hb
  clear hb p0 hg hp
  obtain ⟨pa, rfl⟩ := cv.head
  go_wp2_with fail
  refine (told_any _ hg1 hp1).mono ?_
  rintro e w2 ⟨rfl, hb⟩
  have p2 := p1.next hb
  go_wp2
  go_ret
  exact ⟨rfl, p2⟩

set_option maxRecDepth 100000 in
set_option maxHeartbeats 4000000 in
theorem wraps_short (q l c : Int) (ao : Option Addr) (cap : Nat) (zs : List Int) (il : I64 l) (ic : I64 c) (iz : ∀ z ∈ zs, I64 z) (hlen : zs.length ≤ 12) (w : World) (hg : Et w) (hp : Pow w) (hs : Holds w ao zs) :
    Calls Tryd.prog 4 #[.int .i64 q, .int .i64 l, .int .i64 c, .slice ao zs.length cap] w fun e w' => e = .returned (.bool true) ∧ Below w.heap.size w w' := by
  obtain ⟨a, ha, ea⟩ := small_mod q 1000 (by omega) (by omega)
  have ea' : wrap64 (1 + (a : Int)) = 1 + a := wrap64_small _ (by omega) (by omega)
  have HE : Hid (wrap64 ((IntKind.u64.wrap q).tmod 1000) = a ∧ wrap64 (1 + (a : Int)) = 1 + a) := ⟨ea, ea'⟩
  clear ea ea'
  obtain ⟨L, hL⟩ : ∃ L, L = max l 0 := ⟨_, rfl⟩
  obtain ⟨C, hC⟩ : ∃ C, C = max c 0 := ⟨_, rfl⟩
  have HLC : Hid (L = max l 0 ∧ C = max c 0) := ⟨hL, hC⟩
  clear hL hC
  have p0 : Past w w := Below.refl _ _
  go_enter Tryd.func4, Tryd.ntmps4
  go_wp2_with fail
  simp only [HE.out.1, HE.out.2]
  generalize hk1 : 1 + (a : Int) = k
  have bk0 : 1 ≤ k := by omega
  have bk1 : k ≤ 1000 := by omega
  have ik : I64 k := I64.small (by omega) (by omega)
  clear hk1
  refine (New_chain k l c (by omega) ik il ic _).mono ?_
  rintro e w1 ⟨v, rfl, cv, hb⟩
  rw [← HLC.out.1, ← HLC.out.2] at cv
  have s1 : Sw w w1 v (wch (k, L, C) []) ao zs := ⟨hg.next hb, hp.below hb, cv, hs.next hb, p0.next hb⟩
  clear hb p0 hg hp hs
  obtain ⟨pa, rfl⟩ := cv.head
  clear cv
  go_wp2_with fail
  refine (callsIn_wide.1 (Text_in 3 (by omega) _ _ _ s1.et s1.pow s1.a (by simp [wch]))).mono ?_
  rintro e w2 ⟨rfl, hb⟩
  have s2 := s1.next hb
  clear hb s1
  generalize hTT : textOf (wch (k, L, C) []) = T0
  have HT0 : Hid (textOf (wch (k, L, C) []) = T0) := hTT
  clear hTT
  go_wp2_with fail
  go_loopw [10, 11, 12, 13, 14] (fun e t n s i wr => ∃ (j : Nat) (T : List UInt8) (ln tp : Int), j ≤ zs.length ∧ i = .int .i64 j ∧ t = .int .i64 tp ∧ n = .int .i64 ln ∧ s = .string ⟨T.toArray⟩ ∧ Sw w wr e (wch (k, L, C) (zs.take j)) ao zs ∧ Hid (tp = topOf (wch (k, L, C) (zs.take j)) ∧ ln = (wch (k, L, C) (zs.take j)).length ∧ T = textOf (wch (k, L, C) (zs.take j)))) (fun _ _ _ _ i _ => zs.length - (intOf i).toNat)
  case atStart => exact ⟨0, T0, 1, k, Nat.zero_le _, rfl, rfl, rfl, rfl, s2, rfl, rfl, HT0.out.symm⟩
  case round =>
    clear s2 HT0
    obtain ⟨j, T, ln, tp, hj, rfl, rfl, rfl, rfl, s0, HQ⟩ := hrel
    by_cases hlt : j < zs.length
    · obtain ⟨b, off, rfl, hbl, hcz⟩ := s0.sl j hlt
      obtain ⟨z, hz⟩ : ∃ z, z = zs.getD j 0 := ⟨_, rfl⟩
      rw [← hz] at hcz
      have iz0 : I64 z := by rw [hz]; rw [List.getD_eq_getElem?_getD, List.getElem?_eq_getElem hlt]; exact iz _ (List.getElem_mem hlt)
      have hts : Hid (zs.take (j + 1) = zs.take j ++ [z]) := by rw [hz]; exact take_snoc zs j hlt
      clear hz
      have hwl : Hid ((wch (k, L, C) (zs.take j)).length ≤ 13) := by
        have h1 := wch_len (k, L, C) (zs.take j)
        have h2 : (zs.take j).length ≤ 12 := by simp; omega
        show _ ≤ 13
        omega
      by_cases hz0 : z ≤ 0
      · go_wp2_with fail
        refine (Wrap_same _ z hz0 _).mono ?_
        rintro e W1 ⟨rfl, rfl⟩
        go_wp2_with fail
        refine (Depth_n ln _ _ _ s0.et s0.a HQ.out.2.1.symm (by have h1 := HQ.out.2.1; have h2 := hwl.out; omega)).mono ?_
        rintro e W2 ⟨rfl, hb⟩
        have s2 := s0.next hb
        clear hb s0 hcz hbl
        go_wp2_with fail
        refine (Code_top tp _ _ _ _ s2.et s2.a HQ.out.1).mono ?_
        rintro e W3 ⟨rfl, hb⟩
        have s3 := s2.next hb
        clear hb s2
        go_wp2
        go_roundw
        case rel =>
          refine ⟨j + 1, T, ln, tp, by omega, by go_num, rfl, rfl, rfl, ?_, ?_⟩
          · rw [hts.out, wch_neg _ _ _ (by omega)]; exact s3
          · rw [hts.out, wch_neg _ _ _ (by omega)]; exact HQ
        case measure => simp [intOf]; omega
      · have hzp : 0 < z := by omega
        have hTl : Hid (T.length ≤ 200000) := by
          show T.length ≤ 200000
          have h1 := textOf_len (wch (k, L, C) (zs.take j)) (wch_I64 _ _ ⟨ik, by rw [HLC.out.1]; exact il.max0, by rw [HLC.out.2]; exact ic.max0⟩ (fun x hx => iz x (List.mem_of_mem_take hx)))
          rw [← HQ.out.2.2] at h1
          have h2 := hwl.out
          omega
        have hln0 : 0 ≤ ln := by have h1 := HQ.out.2.1; omega
        have hln1 : ln ≤ 13 := by have h1 := HQ.out.2.1; have h2 := hwl.out; omega
        have ha0 := code_add' z iz0
        have ha1 := colon_add z iz0
        have ha2 := colon_add2 z iz0 T hTl.out
        go_wp2_with fail
        refine (Wrap_chain _ _ z hzp iz0 _ s0.a).mono ?_
        rintro e W1 ⟨v1, rfl, cv, hb⟩
        have hcz1 := (hb.cell (p := ⟨b, off + j, none⟩) hbl).trans hcz
        have s1 : Sw w W1 v1 (wch (k, L, C) (zs.take (j + 1))) (some ⟨b, off, none⟩) zs := ⟨(s0.next hb).et, (s0.next hb).pow, by rw [hts.out, wch_pos _ _ _ hzp]; exact cv, (s0.next hb).sl, (s0.next hb).past⟩
        clear hb s0 cv hcz hbl
        go_wp2_with fail
        go_region
        go_wp2_with fail
        refine (Decimal_nonneg z (by omega) iz0.2 _).mono ?_
        rintro e W2 ⟨rfl, rfl⟩
        go_wp2
        go_roundw
        case rel =>
          refine ⟨j + 1, colonText z ++ T, ln + 1, z, by omega, by go_num, rfl, rfl, rfl, s1.drew, ?_⟩
          rw [hts.out, wch_pos _ _ _ hzp]
          refine ⟨rfl, ?_, ?_⟩
          · rw [HQ.out.2.1]; simp
          · rw [textOf_more, HQ.out.2.2]; rfl
        case measure => simp [intOf]; omega
    · have hje : j = zs.length := by omega
      subst hje
      rw [List.take_length] at s0 HQ
      have hwl : Hid ((wch (k, L, C) zs).length ≤ 13) := by
        have h1 := wch_len (k, L, C) zs
        show _ ≤ 13
        omega
      go_wp2_with fail
      go_loopw [16] (fun i wr => ∃ m : Nat, m ≤ zs.length ∧ i = .int .i64 m ∧ Sw w wr u10 (wch (k, L, C) zs) ao zs) (fun i _ => zs.length - (intOf i).toNat)
      case atStart => exact ⟨0, Nat.zero_le _, rfl, s0⟩
      case round =>
        clear s0
        obtain ⟨m, hm, rfl, s0⟩ := hrel
        by_cases hml : m < zs.length
        · obtain ⟨b, off, rfl, hbl, hcz⟩ := s0.sl m hml
          obtain ⟨z, hz⟩ : ∃ z, z = zs.getD m 0 := ⟨_, rfl⟩
          rw [← hz] at hcz
          have hzm : z ∈ zs := by rw [hz]; rw [List.getD_eq_getElem?_getD, List.getElem?_eq_getElem hml]; exact List.getElem_mem hml
          clear hz
          have hI : ∀ W, Sw w W u10 (wch (k, L, C) zs) (some ⟨b, off, none⟩) zs → Calls Tryd.prog 11 #[u10, .int .i64 z] W fun e W' => e = .returned (.bool (decide (0 < z))) ∧ Below W.heap.size W W' := by
            intro W sW
            by_cases hz0 : z ≤ 0
            · rw [show decide (0 < z) = false by simp; omega]
              exact callsIn_wide.1 (Is_none 3 (by omega) _ z hz0 _)
            · have h := callsIn_wide.1 (Is_in 3 (by omega) _ _ z (by omega) _ sW.et sW.a)
              rw [wch_has _ _ _ hzm (by omega)] at h
              rw [show decide (0 < z) = true by simp; omega]
              exact h
          have HI : Hid (∀ W, Sw w W u10 (wch (k, L, C) zs) (some ⟨b, off, none⟩) zs → Calls Tryd.prog 11 #[u10, .int .i64 z] W fun e W' => e = .returned (.bool (decide (0 < z))) ∧ Below W.heap.size W W') := hI
          clear hI
          go_wp2_with fail
          refine wp_noPanic ?_
          refine region19 _ (fun _ _ _ _ h => by cases h.1) w _ _ _ _ _ _ _ _ z _ _ hml hlen hbl hcz rfl s0 HI.out _ _ _ _ _ _ _ _ _ _ _ _ _ _ _ _ _ _ _ _ _ _ _ _ _ _ _ _ _ _ _ _ _ _ _ _ _ _ _ _ _ _ _ _ _ _ _ _ _ _ _ _ _ _ _ _ _ _ _ _ _ _ _ _ _ _ _ _ _ _ _ _ _ _ _ _ _ _ _ _ _ _ _ _ _ _ _ _ _ _ _ _ _ _ _ _ _ _ _ _ _ _ _ _ _ _ _ _ _ _ _ _ _ _ _ _ _ _ _ _ _ _ _ _ _ _ _ _ _ _ _ _ _ _ _ _ _ _ _ _ _ _ ?_
          intro W' s6
          refine ⟨rfl, ?_⟩
          go_wp2
          go_roundw
          case rel => exact ⟨m + 1, by omega, by go_num, s6⟩
          case measure => simp [intOf]; omega
        · go_wp2_with fail
          refine (told_any _ s0.et s0.pow).mono ?_
          rintro e W1 ⟨rfl, hb⟩
          have s1 := s0.next hb
          clear hb s0
          go_wp2_with fail
          refine (Code_top tp _ _ _ _ s1.et s1.a HQ.out.1).mono ?_
          rintro e W2 ⟨rfl, hb⟩
          have s2 := s1.next hb
          clear hb s1
          go_wp2_with fail
          refine (callsIn_wide.1 (Is_in 3 (by omega) _ _ k (by omega) _ s2.et s2.a)).mono ?_
          rw [show hasCode (wch (k, L, C) zs) k = true from wch_base (k, L, C) zs]
          rintro e W3 ⟨rfl, hb⟩
          have s3 := s2.next hb
          clear hb s2
          go_wp2_with fail
          refine (callsIn_wide.1 (Is_none 3 (by omega) _ 0 (by omega) _)).mono ?_
          rintro e W4 ⟨rfl, hb⟩
          have s4 := s3.next hb
          clear hb s3
          go_wp2_with fail
          refine (callsIn_wide.1 (Is_none 3 (by omega) _ (-k) (by omega) _)).mono ?_
          rintro e W5 ⟨rfl, hb⟩
          have s5 := s4.next hb
          clear hb s4
          go_wp2_with fail
          refine (Depth_n ln _ _ _ s5.et s5.a HQ.out.2.1.symm (by have h1 := HQ.out.2.1; have h2 := hwl.out; omega)).mono ?_
          rintro e W6 ⟨rfl, hb⟩
          have s6 := s5.next hb
          clear hb s5
          go_wp2_with fail
          refine (callsIn_wide.1 (Text_in 3 (by omega) _ _ _ s6.et s6.pow s6.a (by have h2 := hwl.out; omega))).mono ?_
          rw [← HQ.out.2.2]
          rintro e W7 ⟨rfl, hb⟩
          have s7 := s6.next hb
          clear hb s6
          go_wp2_with fail
          refine (callsIn_wide.1 (Spot_in 3 (by omega) _ _ _ s7.et s7.a)).mono ?_
          rw [wch_spot, spot_one]
          rintro e W8 ⟨rfl, hb⟩
          have s8 := s7.next hb
          clear hb s7
          go_wp2_with fail
          refine (bounded_any l _).mono ?_
          rintro e W9 ⟨rfl, rfl⟩
          rw [← HLC.out.1]
          go_wp2_with fail
          refine (bounded_any c _).mono ?_
          rintro e W10 ⟨rfl, rfl⟩
          rw [← HLC.out.2]
          go_wp2
          go_ret
          exact ⟨rfl, s8.past⟩
end Go.Proofs.YtiidgekembgdcaaDoor
