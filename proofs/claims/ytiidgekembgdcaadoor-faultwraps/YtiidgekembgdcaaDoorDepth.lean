/- FaultDepth's walk: it answers true, however often it is wrapped, at any code and place. -/
import Derived.Test.YtiidgekembgdcaaDoorDepthR
namespace Go.Proofs.YtiidgekembgdcaaDoor
open Go.RowKit Go.Shelf

theorem wp_noPanic {P : Program} {c : Code} {Q : Exit → Act → World → Prop} {a : Act} {w : World} (h : c.wp P (fun e a w => e = .normal ∧ Q .normal a w) a w) : c.wp P Q a w :=
  Code.wp_mono (Q := fun e a w => e = .normal ∧ Q .normal a w) (fun e a w k => by obtain ⟨rfl, k2⟩ := k; exact k2) h


set_option maxRecDepth 100000 in
set_option maxHeartbeats 4000000 in
theorem depth_any (n k l c : Int) (w : World) (hg : Et w) (hp : Pow w) :
    Calls Tryd.prog 6 #[.int .i64 n, .int .i64 k, .int .i64 l, .int .i64 c] w fun e w' => e = .returned (.bool true) ∧ Below w.heap.size w w' := by
  obtain ⟨K, hK, eK⟩ := small_mod n 51 (by omega) (by omega)
  obtain ⟨a, ha, ea⟩ := small_mod k 100 (by omega) (by omega)
  obtain ⟨b, hb, eb⟩ := small_mod l 1000 (by omega) (by omega)
  obtain ⟨d, hd, ed⟩ := small_mod c 1000 (by omega) (by omega)
  have ea' : wrap64 (1 + (a : Int)) = 1 + a := wrap64_small _ (by omega) (by omega)
  have eb' : wrap64 (1 + (b : Int)) = 1 + b := wrap64_small _ (by omega) (by omega)
  have ed' : wrap64 (1 + (d : Int)) = 1 + d := wrap64_small _ (by omega) (by omega)
  have HE : Hid (wrap64 ((IntKind.u64.wrap n).tmod 51) = K ∧ wrap64 ((IntKind.u64.wrap k).tmod 100) = a ∧ wrap64 ((IntKind.u64.wrap l).tmod 1000) = b ∧ wrap64 ((IntKind.u64.wrap c).tmod 1000) = d ∧ wrap64 (1 + (a : Int)) = 1 + a ∧ wrap64 (1 + (b : Int)) = 1 + b ∧ wrap64 (1 + (d : Int)) = 1 + d) := ⟨eK, ea, eb, ed, ea', eb', ed'⟩
  clear eK ea eb ed ea' eb' ed'
  go_enter Tryd.func6, Tryd.ntmps6
  go_wp2_with fail
  simp only [HE.out.1, HE.out.2.1, HE.out.2.2.1, HE.out.2.2.2.1, HE.out.2.2.2.2.1, HE.out.2.2.2.2.2.1, HE.out.2.2.2.2.2.2]
  generalize hc1 : 1 + (a : Int) = c'
  generalize hl1 : 1 + (b : Int) = L
  generalize hd1 : 1 + (d : Int) = C
  have bc : 1 ≤ c' ∧ c' ≤ 100 := by omega
  have bL : 1 ≤ L ∧ L ≤ 1000 := by omega
  have bC : 1 ≤ C ∧ C ≤ 1000 := by omega
  obtain ⟨bc0, bc1⟩ := bc
  have HL : Hid ((1 ≤ L ∧ L ≤ 1000) ∧ (1 ≤ C ∧ C ≤ 1000)) := ⟨bL, bC⟩
  clear hc1 hl1 hd1 bL bC ha hb hd HE
  refine (New_chain c' L C (by omega) (I64.small (by omega) (by omega)) (I64.small (by have := HL.out; omega) (by have := HL.out; omega)) (I64.small (by have := HL.out; omega) (by have := HL.out; omega)) _).mono ?_
  rintro e w1 ⟨v, rfl, cv, hb⟩
  rw [show max L 0 = L by have := HL.out; omega, show max C 0 = C by have := HL.out; omega] at cv
  have p1 : Past w w1 := hb
  have hg1 := hg.next hb
  have hp1 := hp.below hb
  clear hb hg hp
  have hpb : placedB L C = true := by
    have := HL.out
    simp [placedB]; omega
  have HP : Hid (placedB L C = true) := hpb
  clear hpb
  obtain ⟨pa, rfl⟩ := cv.head
  go_wp2_with fail
  refine (callsIn_wide.1 (Spot_in 3 (by omega) _ _ _ hg1 cv)).mono ?_
  rintro e w2 ⟨rfl, hb⟩
  rw [show spotOf [(c', L, C)] = (L, C) from dch_spot c' L C HP.out 0]
  have p2 := p1.next hb
  have hg2 := hg1.next hb
  have hp2 := hp1.below hb
  replace cv := cv.below hb
  clear hb p1 hg1 hp1
  have hb2 : Below w2.heap.size w2 (w2.alloc (.cells #[.int .i64 L, .int .i64 C] 31)) := (Below.refl _ _).alloc (Nat.le_refl _) _
  have s2 : St (w2.alloc (.cells #[.int .i64 L, .int .i64 C] 31)) (.iface 41 (.pointer (some pa))) (dch c' L C 0) w2.heap.size L C :=
    ⟨hg2.next hb2, hp2.below hb2, cv.below hb2, by simp, by simp, by simp⟩
  have p2' := p2.next hb2
  clear hb2 p2 hg2 hp2 cv
  go_wp2_with fail
  go_loopw [11, 13] (fun e i wr => ∃ j : Nat, j ≤ K ∧ i = .int .i64 j ∧ St wr e (dch c' L C j) w2.heap.size L C ∧ Past w wr) (fun _ i _ => K - (intOf i).toNat)
  case atStart => exact ⟨0, Nat.zero_le _, rfl, s2, p2'⟩
  case round =>
    clear s2 p2'
    obtain ⟨j, hj, rfl, s0, p0⟩ := hrel
    by_cases hlt : j < K
    · go_wp2_with fail
      refine (Wrap_chain _ _ (c' + j + 1) (by omega) (I64.small (by omega) (by omega)) _ s0.a).mono ?_
      rintro e W0 ⟨v0, rfl, cv, hb⟩
      have s1 : St W0 v0 (dch c' L C (j + 1)) w2.heap.size L C := ⟨(s0.next hb).et, (s0.next hb).pow, cv, (s0.next hb).lt, (s0.next hb).c0, (s0.next hb).c1⟩
      have p1 := p0.next hb
      clear hb s0 p0 cv
      have hlen : ((dch c' L C (j + 1)).length : Int) = j + 2 := by rw [dch_len]; omega
      have hjm : (j : Int) + 2 ≤ 1000 := by omega
      have HD := dch_spot c' L C HP.out (j + 1)
      have HDS : Hid (spotOf (dch c' L C (j + 1)) = (L, C)) := HD
      have HH : Hid (hasCode (dch c' L C (j + 1)) c' = true) := dch_has c' L C (j + 1)
      have HN : Hid (hasCode (dch c' L C (j + 1)) (c' + j + 2) = false) := dch_hasnot c' L C (j + 1) _ (by omega)
      have HLen : Hid (((dch c' L C (j + 1)).length : Int) = j + 2) := hlen
      have hcode : ∃ r, dch c' L C (j + 1) = (c' + j + 1, 0, 0) :: r := ⟨_, rfl⟩
      clear HD hlen
      obtain ⟨r, hr⟩ := hcode
      have HR : Hid (dch c' L C (j + 1) = (c' + j + 1, 0, 0) :: r) := hr
      clear hr
      have hw0 := s1.c0
      have hw1 := s1.c1
      go_wp2_with fail
      refine wp_noPanic ?_
      refine region10 _ (fun _ _ _ _ h => by cases h.1) w _ _ _ L C _ _ r _ bc0 bc1 (by omega) (by omega) s1 p1 HLen.out HR.out HDS.out HH.out HN.out _ _ _ _ _ _ _ _ _ _ _ _ _ _ _ _ _ _ _ _ _ _ _ _ _ _ _ _ _ _ _ _ _ _ _ _ _ _ _ _ _ _ _ _ _ _ _ _ _ _ _ _ _ _ _ _ _ _ _ _ _ _ _ _ _ _ _ _ _ _ _ _ _ _ _ _ _ _ _ _ _ _ _ _ _ _ _ _ _ _ _ _ _ _ _ _ _ ?_
      intro W' s6 p6
      refine ⟨rfl, ?_⟩
      go_wp2
      go_roundw
      case rel => exact ⟨j + 1, by omega, by go_num, s6, p6⟩
      case measure => simp [intOf]; omega
    · have hjK : j = K := by omega
      subst hjK
      have hTx := dch_text c' L C j
      have hTl : (dch c' L C j).length ≤ 1000 := by rw [dch_len]; omega
      have hLn : ((dch c' L C j).length : Int) = j + 1 := by rw [dch_len]; omega
      have HLn : Hid (((dch c' L C j).length : Int) = j + 1) := hLn
      have HTx : Hid ((Lib.itoa c').length < (textOf (dch c' L C j)).length) := hTx
      have HTl : Hid ((dch c' L C j).length ≤ 1000) := hTl
      clear hLn hTx hTl
      go_wp2_with fail
      refine (told_any _ s0.et s0.pow).mono ?_
      rintro e W1 ⟨rfl, hb⟩
      have s1 := s0.next hb
      have p1 := p0.next hb
      clear hb s0 p0
      go_wp2_with fail
      refine (Depth_n (j + 1) _ _ _ s1.et s1.a HLn.out (by omega)).mono ?_
      rintro e W2 ⟨rfl, hb⟩
      have s2 := s1.next hb
      have p2 := p1.next hb
      clear hb s1 p1
      go_wp2_with fail
      refine (callsIn_wide.1 (Text_in 3 (by omega) _ _ _ s2.et s2.pow s2.a HTl.out)).mono ?_
      rintro e W3 ⟨rfl, hb⟩
      have p3 := p2.next hb
      clear hb s2 p2
      go_wp2_with fail
      refine (Decimal_nonneg c' (by omega) (by omega) _).mono ?_
      rintro e W4 ⟨rfl, rfl⟩
      have hTx := HTx.out
      generalize Lib.itoa c' = DD at hTx
      generalize textOf (dch c' L C j) = TT at hTx
      go_wp2
      go_ret
      exact ⟨rfl, p3⟩

theorem depth_law (n k l c : Int) (_ : I64 n) (_ : I64 k) (_ : I64 l) (_ : I64 c) (w : World) (hg : Et w) (hp : Pow w) :
    Calls Tryd.prog 6 #[.int .i64 n, .int .i64 k, .int .i64 l, .int .i64 c] w fun e w' => e = .returned (.bool true) ∧ Below w.heap.size w w' := depth_any n k l c w hg hp
end Go.Proofs.YtiidgekembgdcaaDoor
