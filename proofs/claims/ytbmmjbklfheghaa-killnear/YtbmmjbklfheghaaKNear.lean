/- KillNear answers true: its walk. -/
import Derived.Test.YtbmmjbklfheghaaKNearR
import Derived.Test.YtbmmjbklfheghaaGNearOne
import Derived.Test.YtbmmjbklfheghaaVMakeA
namespace Go.Proofs.Ytbmmjbklfheghaa.Kll
set_option linter.unusedVariables false
set_option maxRecDepth 100000
open Go.RowKit Go.Shelf
open Go.Proofs.Ytbmmjbklfheghaa.Ven (Seat Pole Ven VenAt venV Box mayB mixed Sl below_alloc IntsAt make_any intC rmay_any RowF BelowOf wp_region_quiet_below Calls.below_of row_slice)
open Go.Proofs.Ytbmmjbklfheghaa.Geo (thoseN thoseN_mem thoseN_le nearL near_any those)
open Go.Proofs.Ytbmmjbklfheghaa.Com (hid' MarksAt Ints)

/-- Which seats are marked, once the first 'i' kills and the first 'm' poles were gone through. -/
def markN (V : Ven) (i m x : Nat) : Bool := decide ((x : Int) ∈ V.kills.take i) || (List.range m).any (fun p => decide (x < V.seats.length) && poleN V x p)
theorem markN_zero (V : Ven) (x : Nat) : markN V 0 0 x = false := by unfold markN; simp
theorem markN_kill {V : Ven} {i : Nat} (h : i < V.kills.length) {z : Nat} (hz : V.kills[i] = (z : Int)) (x : Nat) : markN V (i + 1) 0 x = if x = z then true else markN V i 0 x := by
  unfold markN
  rw [List.take_succ_eq_append_getElem h, hz]
  by_cases e : x = z
  · subst e; simp
  · rw [if_neg e]
    simp only [List.mem_append, List.mem_singleton]
    have : ¬ (x : Int) = (z : Int) := by omega
    simp [this]
theorem markN_pole (V : Ven) (i m x : Nat) : markN V i (m + 1) x = (markN V i m x || (decide (x < V.seats.length) && poleN V x m)) := by
  unfold markN
  rw [List.range_succ, List.any_append]
  simp [Bool.or_assoc]
theorem markN_all (V : Ven) (x : Nat) (hx : x < V.seats.length) : markN V V.kills.length V.poles.length x = deadN V x := by
  have h : markN V V.kills.length V.poles.length x = true ↔ deadN V x = true := by
    rw [dead_iff]
    unfold markN
    rw [List.take_length]
    simp [hx]
  cases h1 : markN V V.kills.length V.poles.length x <;> cases h2 : deadN V x <;> simp_all
theorem rowf_false (V : Ven) (w : World) : RowF (w.alloc (.cells (Value.bool false :: Value.bool false :: Value.bool false :: Value.bool false :: Value.bool false :: Value.bool false :: Value.bool false :: Value.bool false :: Value.bool false :: Value.bool false :: Value.bool false :: Value.bool false :: Value.bool false :: Value.bool false :: Value.bool false :: Value.bool false :: Value.bool false :: Value.bool false :: Value.bool false :: Value.bool false :: Value.bool false :: Value.bool false :: Value.bool false :: Value.bool false :: Value.bool false :: Value.bool false :: Value.bool false :: Value.bool false :: Value.bool false :: Value.bool false :: Value.bool false :: Value.bool false :: Value.bool false :: Value.bool false :: Value.bool false :: Value.bool false :: Value.bool false :: Value.bool false :: Value.bool false :: Value.bool false :: []).toArray 38)) w.heap.size 40 (fun x => .bool (markN V 0 0 x)) := by
  have h := RowF.made w (.bool false) 40 38
  rw [show madeCells #[.bool false] 40 = (Value.bool false :: Value.bool false :: Value.bool false :: Value.bool false :: Value.bool false :: Value.bool false :: Value.bool false :: Value.bool false :: Value.bool false :: Value.bool false :: Value.bool false :: Value.bool false :: Value.bool false :: Value.bool false :: Value.bool false :: Value.bool false :: Value.bool false :: Value.bool false :: Value.bool false :: Value.bool false :: Value.bool false :: Value.bool false :: Value.bool false :: Value.bool false :: Value.bool false :: Value.bool false :: Value.bool false :: Value.bool false :: Value.bool false :: Value.bool false :: Value.bool false :: Value.bool false :: Value.bool false :: Value.bool false :: Value.bool false :: Value.bool false :: Value.bool false :: Value.bool false :: Value.bool false :: Value.bool false :: []).toArray from by kernel_rfl] at h
  refine ⟨h.1, fun x hx => ?_⟩
  show _ = some (Value.bool (markN V 0 0 x)) ∧ _
  rw [markN_zero]; exact h.2 x hx
/-- What is near a pole of a venue that may be. -/
theorem near_pole {V : Ven} (hm : mayB V = true) (m : Nat) (h : m < V.poles.length) : nearL V V.poles[m].x V.poles[m].y V.poles[m].r = thoseN V.seats.length (fun k => poleN V k m) := by
  have hp := (may_wellK hm).pole m h
  unfold nearL those poleN
  rw [hm, hp.1, decide_eq_true (show 1 ≤ V.poles[m].r ∧ V.poles[m].r ≤ 1048576 from hp.2), getElem!_pos V.poles m h]
  rfl
set_option maxHeartbeats 16000000 in
theorem near_law (a : Option Addr) (len cap : Nat) (l : List Int) {w0 : World} (h : IntsAt w0 a len cap l) (w : World) (hw : w0 = w := by rfl) :
    Calls Try.prog 4 #[.slice a len cap] w fun e w' => e = .returned (.bool true) ∧ Below w.heap.size w w' := by
  subst hw
  have hmake := make_any a len cap l 30 (by omega) (by omega) w0 h
  clear h
  go_enter Try.func4, Try.ntmps4
  go_wp2_with fail
  refine hmake.mono ?_
  rintro e w1 ⟨V, az, cs, ak, ck, ap, cp, row, xx, rfl, hven, hok, hle, hb1⟩
  have hl1 := hok.len
  have HM := hid' (hok.may (by omega))
  have HKL := hid' hok.kl
  have HWK := hid' (may_wellK HM.out)
  have hkl := HWK.out.kills
  have hpl := HWK.out.poles
  have hb2 := below_alloc w1 (.cells #[.slice az V.seats.length cs, .int .i64 V.gap, .int .i64 V.radius, .slice ak V.kills.length ck, .slice ap V.poles.length cp] 26)
  have hx := Box.fresh w1 26 #[.slice az V.seats.length cs, .int .i64 V.gap, .int .i64 V.radius, .slice ak V.kills.length ck, .slice ap V.poles.length cp]
  have HB2 := hid' (hb1.trans (hb2.mono hb1.size))
  have HV := hid' (hven.next hb2)
  have HX := hid' hx
  have HDB : Hid ((w1.alloc (.cells #[.slice az V.seats.length cs, .int .i64 V.gap, .int .i64 V.radius, .slice ak V.kills.length ck, .slice ap V.poles.length cp] 26)).heap.size = w1.heap.size + 1) := by show _ = _; simp
  obtain ⟨v0, v1, v2, v3, v4⟩ := hx.five
  clear hmake hok hven hb1 hb2 hx
  go_wp2_with fail
  clear v0 v1 v2 v3 v4
  generalize w1.alloc (.cells #[.slice az V.seats.length cs, .int .i64 V.gap, .int .i64 V.radius, .slice ak V.kills.length ck, .slice ap V.poles.length cp] 26) = w2 at *
  generalize w1.heap.size = B at *
  have HR0 := hid' (rowf_false V w2)
  rw [HDB.out] at HR0
  have HB0 := hid' (below_alloc w2 (.cells (Value.bool false :: Value.bool false :: Value.bool false :: Value.bool false :: Value.bool false :: Value.bool false :: Value.bool false :: Value.bool false :: Value.bool false :: Value.bool false :: Value.bool false :: Value.bool false :: Value.bool false :: Value.bool false :: Value.bool false :: Value.bool false :: Value.bool false :: Value.bool false :: Value.bool false :: Value.bool false :: Value.bool false :: Value.bool false :: Value.bool false :: Value.bool false :: Value.bool false :: Value.bool false :: Value.bool false :: Value.bool false :: Value.bool false :: Value.bool false :: Value.bool false :: Value.bool false :: Value.bool false :: Value.bool false :: Value.bool false :: Value.bool false :: Value.bool false :: Value.bool false :: Value.bool false :: Value.bool false :: []).toArray 38))
  go_loopw [5] (fun i wr => ∃ k : Nat, k ≤ V.kills.length ∧ i = .int .i64 k ∧ Hid (Below w2.heap.size w2 wr) ∧ Hid (RowF wr (B + 1) 40 (fun x => .bool (markN V k 0 x)))) (fun i _ => V.kills.length - (intOf i).toNat)
  case atStart => exact ⟨0, Nat.zero_le _, rfl, HB0, HR0⟩
  case round =>
    clear HR0 HB0
    obtain ⟨k, hk, rfl, HB, HR⟩ := hrel
    obtain ⟨v0, v1, v2, v3, v4⟩ := (HX.out.next HB.out).five
    by_cases hlt : k < V.kills.length
    · have hltz : (k : Int) < (V.kills.length : Int) := by omega
      obtain ⟨kb, ko, kc, hke, hk1, hk2⟩ := Com.Sl.num (HV.out.k.next HB.out) (by omega)
      injection hke with hke _ hkc
      subst hke hkc
      have hkz := HKL.out V.kills[k] (List.getElem_mem hlt)
      obtain ⟨z, hz⟩ : ∃ z : Nat, V.kills[k] = (z : Int) := ⟨V.kills[k].toNat, by omega⟩
      have m0 := hk2 k hlt
      rw [hz] at m0 hkz
      have d40 : (z : Int) < 40 := by omega
      have hput := HR.out.put (f' := fun x => .bool (markN V (k + 1) 0 x)) z (.bool true) (by omega) (fun x _ => by
        show Value.bool (markN V (k + 1) 0 x) = if x = z then Value.bool true else .bool (markN V k 0 x)
        rw [markN_kill hlt hz]; split <;> rfl)
      have z5 := (HR.out.2 z (by omega)).2
      have z4 : wr.cell? ⟨B + 1, z, none⟩ = some (.bool (markN V k 0 z)) := (HR.out.2 z (by omega)).1
      have HR5 := hid' hput
      have HB5 := hid' (Below.setCell HB.out (show w2.heap.size ≤ (⟨B + 1, z, none⟩ : Addr).block from Nat.le_of_eq HDB.out) (.bool true))
      clear hput HR HB hk1 hk2 hz
      go_wp2_with fail
      exact ⟨⟨k + 1, by omega, by go_num, HB5, HR5⟩, by simp [intOf]; omega⟩
    · have hltz : ¬ (k : Int) < (V.kills.length : Int) := by omega
      have hkn : k = V.kills.length := by omega
      rw [hkn] at HR
      clear hkn hlt
      have HBK := HB
      have HRK := HR
      clear HB HR
      go_wp2_with fail
      clear v0 v1 v2 v3 v4
      generalize wr = wz at *
      go_loopw [6, 7, 8] (fun i _ _ wr => ∃ m : Nat, m ≤ V.poles.length ∧ i = .int .i64 m ∧ Hid (Below w2.heap.size w2 wr) ∧ Hid (RowF wr (B + 1) 40 (fun x => .bool (markN V V.kills.length m x)))) (fun i _ _ _ => V.poles.length - (intOf i).toNat)
      case atStart => exact ⟨0, Nat.zero_le _, rfl, HBK, HRK⟩
      case round =>
        clear HBK HRK
        obtain ⟨m, hm, rfl, HB, HR⟩ := hrel
        obtain ⟨v0, v1, v2, v3, v4⟩ := (HX.out.next HB.out).five
        by_cases hlt : m < V.poles.length
        · have hltz : (m : Int) < (V.poles.length : Int) := by omega
          obtain ⟨pb, po, rfl, hP0⟩ := Ven.cells_of_pos HV.out.p hlt
          have hP := hP0.next HB.out
          have m0 : wr.cell? ⟨pb, po + m * 3, none⟩ = some (.int .i64 V.poles[m].x) := hP.2 m hlt 0 _ rfl
          have m1 : wr.cell? ⟨pb, po + m * 3 + 1, none⟩ = some (.int .i64 V.poles[m].y) := hP.2 m hlt 1 _ rfl
          have m2 : wr.cell? ⟨pb, po + m * 3 + 2, none⟩ = some (.int .i64 V.poles[m].r) := hP.2 m hlt 2 _ rfl
          have HNP := hid' (near_pole HM.out m hlt)
          go_wp2_with fail
          refine near_region _ wr rfl B pb po m az ak V.seats.length cs V.kills.length ck V.poles.length cp V.gap V.radius V.poles[m].x V.poles[m].y V.poles[m].r (thoseN V.seats.length (fun k => poleN V k m)) hlt (HX.out.next HB.out) hP.1 m0 m1 m2 rfl rfl ?_ ?_
          · intro w hw
            refine (near_any _ _ _ _ _ _ _ _ _ V _ _ _ w (HV.out.next (HB.out.trans (hw.mono HB.out.size)))).mono ?_
            rintro e w' ⟨v, rfl, hi, hb⟩
            rw [HNP.out] at hi
            exact ⟨v, rfl, Com.row_base hi hw.size, hb⟩
          intro w3 r1 nv hb3 hnv
          have HB3 := hid' (HB.out.trans (hb3.mono HB.out.size))
          have HR3 := hid' (HR.out.next hb3)
          obtain ⟨na, nc, rfl⟩ := row_slice hnv
          have HGL := hid' HR.out.1
          have HNM : Hid (∀ z ∈ thoseN V.seats.length (fun k => poleN V k m), ∃ i : Nat, i < V.seats.length ∧ poleN V i m = true ∧ z = (i : Int)) := fun z hz => (thoseN_mem _ _ z).1 hz
          have HNA : Hid (∀ x : Nat, decide ((x : Int) ∈ thoseN V.seats.length (fun k => poleN V k m)) = (decide (x < V.seats.length) && poleN V x m)) := fun x => by
            rw [Bool.eq_iff_iff, decide_eq_true_eq, Bool.and_eq_true, decide_eq_true_eq, thoseN_mem]
            constructor
            · rintro ⟨i, h1, h2, h3⟩
              obtain rfl : x = i := by omega
              exact ⟨h1, h2⟩
            · rintro ⟨h1, h2⟩; exact ⟨x, h1, h2, rfl⟩
          have hnl := thoseN_le V.seats.length (fun k => poleN V k m)
          have HNV := hid' hnv
          clear hb3 hnv HB HR hP hP0 m0 m1 m2 v0 v1 v2 v3 v4 HNP
          generalize thoseN V.seats.length (fun k => poleN V k m) = NL at *
          have HRS : Hid (RowF w3 (B + 1) 40 (fun x => .bool (markN V V.kills.length m x || decide ((x : Int) ∈ NL.take 0)))) := by
            have := HR3.out
            have e : (fun x : Nat => Value.bool (markN V V.kills.length m x || decide ((x : Int) ∈ NL.take 0))) = (fun x => Value.bool (markN V V.kills.length m x)) := funext fun x => by simp
            show RowF _ _ _ _
            rw [e]; exact this
          clear HR3
          simp only [Ven.putAll, List.setIfInBounds_toArray, List.set_cons_succ, List.set_cons_zero]
          generalize wr = wq at *
          go_wp2_with fail
          go_loopw [8] (fun i wr => ∃ j : Nat, j ≤ NL.length ∧ i = .int .i64 j ∧ Hid (Below w2.heap.size w2 wr) ∧ Hid (Ints wq.heap.size wr (.slice na NL.length nc) NL) ∧ Hid (RowF wr (B + 1) 40 (fun x => .bool (markN V V.kills.length m x || decide ((x : Int) ∈ NL.take j))))) (fun i _ => NL.length - (intOf i).toNat)
          case atStart => exact ⟨0, Nat.zero_le _, rfl, HB3, HNV, HRS⟩
          case round =>
            clear HB3 HNV HRS
            obtain ⟨j, hj, rfl, HB, HNI, HR⟩ := hrel
            by_cases hlj : j < NL.length
            · have hljz : (j : Int) < (NL.length : Int) := by omega
              obtain ⟨z, hz1, _, hz2⟩ := HNM.out NL[j] (List.getElem_mem hlj)
              obtain ⟨nb, no, nc', hne, hn1, hn2⟩ := Com.Sl.num HNI.out.sl (by omega)
              injection hne with hne _ hnc
              subst hne hnc
              have c0 := hn2 j hlj
              rw [hz2] at c0
              have HTK : Hid (∀ x : Nat, decide ((x : Int) ∈ NL.take (j + 1)) = (if x = z then true else decide ((x : Int) ∈ NL.take j))) := fun x => by
                rw [List.take_succ_eq_append_getElem hlj, hz2]
                by_cases e : x = z
                · subst e; simp
                · rw [if_neg e]
                  have : ¬ (x : Int) = (z : Int) := by omega
                  simp [this]
              have d0 : ¬ (z : Int) < 0 := by omega
              have d1 : ¬ (V.seats.length : Int) ≤ (z : Int) := by omega
              have d40 : (z : Int) < 40 := by omega
              have e0 : decide ((z : Int) < 0) = false := decide_eq_false d0
              have e1 : decide ((V.seats.length : Int) ≤ (z : Int)) = false := decide_eq_false d1
              have e2 : decide (V.seats.length ≤ z) = false := decide_eq_false (by omega)
              have hne2 : Nonempty (BelowOf wr) := ⟨⟨wr, Below.refl _ wr⟩⟩
              have HT : Hid (∀ p : BelowOf wr, Below w2.heap.size w2 p.w) := fun p => HB.out.trans (p.h.mono HB.out.size)
              have v0 := fun p : BelowOf wr => (HX.out.next (HT.out p)).cell 0 _ rfl
              have v1 := fun p : BelowOf wr => (HX.out.next (HT.out p)).cell 1 _ rfl
              have q0 := fun p : BelowOf wr => (p.h.cell (p := ⟨nb, no + j, none⟩) hn1).trans c0
              go_wp2_with fail
              refine wp_region_quiet_below mixed (by kernel_rfl) ?_
              repeat (go_big_quiet_step (fail))
              refine wpQuiet_nil ?_
              intro _ hw'
              obtain ⟨p, hw''⟩ := hw'
              subst hw''
              have HB4 := hid' (HT.out p)
              have HNI4 := hid' (HNI.out.next p.h)
              have HR4 := hid' (HR.out.next p.h)
              have k0 := q0 p
              clear v0 v1 q0 hne2 HT HB HNI HR c0 hn1 hn2 hz2
              generalize p.w = wp at *
              clear p
              have hput := HR4.out.put (f' := fun x => .bool (markN V V.kills.length m x || decide ((x : Int) ∈ NL.take (j + 1)))) z (.bool true) (by omega) (fun x _ => by
                show Value.bool (markN V V.kills.length m x || decide ((x : Int) ∈ NL.take (j + 1))) = if x = z then Value.bool true else .bool (markN V V.kills.length m x || decide ((x : Int) ∈ NL.take j))
                rw [HTK.out]
                split
                · simp
                · rfl)
              have z5 := (HR4.out.2 z (by omega)).2
              have z4 : wp.cell? ⟨B + 1, z, none⟩ = some (.bool (markN V V.kills.length m z || decide ((z : Int) ∈ NL.take j))) := (HR4.out.2 z (by omega)).1
              have HR5 := hid' hput
              have HB5 := hid' (Below.setCell HB4.out (show w2.heap.size ≤ (⟨B + 1, z, none⟩ : Addr).block from Nat.le_of_eq HDB.out) (.bool true))
              have HNI5 : Hid (Ints wq.heap.size (wp.setCell ⟨B + 1, z, none⟩ (.bool true)) (.slice (some ⟨nb, no, none⟩) NL.length nc) NL) :=
                Ven.row_same HNI4.out fun g' _ hv => Below.heap_setCell wp _ _ g' (fun e => by
                  have h1 := (HNI4.out.lt g' hv).1
                  have h2 := HGL.out
                  have e' : g' = B + 1 := e
                  omega)
              clear hput HB4 HNI4 HR4
              go_wp2_with fail
              exact ⟨⟨j + 1, by omega, by go_num, HB5, HNI5, HR5⟩, by simp [intOf]; omega⟩
            · have hljz : ¬ (j : Int) < (NL.length : Int) := by omega
              have hjn : j = NL.length := by omega
              have HRN : Hid (RowF wr (B + 1) 40 (fun x => .bool (markN V V.kills.length (m + 1) x))) := by
                have h1 := HR.out
                have e : (fun x : Nat => Value.bool (markN V V.kills.length m x || decide ((x : Int) ∈ NL.take j))) = (fun x => Value.bool (markN V V.kills.length (m + 1) x)) := funext fun x => by
                  rw [markN_pole, hjn, List.take_length, HNA.out]
                show RowF _ _ _ _
                rw [← e]; exact h1
              clear HR HNI hjn
              go_wp2_with fail
              exact ⟨⟨m + 1, by omega, by go_num, HB, HRN⟩, by simp [intOf]; omega⟩
        · have hltz : ¬ (m : Int) < (V.poles.length : Int) := by omega
          have hmn : m = V.poles.length := by omega
          have HD : Hid (∀ x, x < V.seats.length → wr.cell? ⟨B + 1, x, none⟩ = some (.bool (deadN V x))) := fun x hx => by
            have h1 : wr.cell? ⟨B + 1, x, none⟩ = some (.bool (markN V V.kills.length m x)) := (HR.out.2 x (by omega)).1
            rw [h1, hmn, markN_all V x hx]
          have HGL := hid' HR.out.1
          clear HR hmn
          go_wp2_with fail
          refine (usable_any _ _ _ _ _ _ _ _ _ V wr (HV.out.next HB.out)).mono ?_
          rintro e w4 ⟨ua, un, uc, rfl, hmk, hb4⟩
          have hul := hmk.len
          rw [usable_len HM.out] at hul
          subst hul
          have HB4 := hid' (HB.out.trans (hb4.mono HB.out.size))
          have HMK := hid' hmk
          have HD4 : Hid (∀ x, x < V.seats.length → w4.cell? ⟨B + 1, x, none⟩ = some (.bool (deadN V x))) := fun x hx => (hb4.cell (p := ⟨B + 1, x, none⟩) HGL.out).trans (HD.out x hx)
          have HGL4 : Hid (B + 1 < w4.heap.size) := Nat.lt_of_lt_of_le HGL.out hb4.size
          clear hmk hb4 HB HD HGL v0 v1 v2 v3 v4
          obtain ⟨v0, v1, v2, v3, v4⟩ := (HX.out.next HB4.out).five
          have hnn : ((V.seats.length : Int) != (V.seats.length : Int)) = false := by simp
          go_wp2_with fail
          clear v0 v1 v2 v3 v4 hnn
          go_loopw [10] (fun i wr => ∃ q : Nat, q ≤ V.seats.length ∧ i = .int .i64 q ∧ Hid (Below w4.heap.size w4 wr)) (fun i _ => V.seats.length - (intOf i).toNat)
          case atStart => exact ⟨0, Nat.zero_le _, rfl, Below.refl _ _⟩
          case round =>
            obtain ⟨q, hq, rfl, HY⟩ := hrel
            have HBY := hid' (HB4.out.trans (HY.out.mono HB4.out.size))
            by_cases hlq : q < V.seats.length
            · have hlqz : (q : Int) < (V.seats.length : Int) := by omega
              have hqu : q < (usableL V).length := by rw [usable_len HM.out]; exact hlq
              obtain ⟨ub, uo, rfl, hu1, hu2⟩ := (HMK.out.next HY.out).at q hqu
              rw [usable_get hqu] at hu2
              have hdc := (HY.out.cell (p := ⟨B + 1, q, none⟩) HGL4.out).trans (HD4.out q hlq)
              have hbl : decide (0 < (byN V q).length) = deadN V q := by
                unfold deadN
                cases byN V q <;> simp
              go_wp2_with fail
              refine by_region _ wr rfl B ub uo (B + 1) q az ak ap V.seats.length cs V.kills.length ck V.poles.length cp V.seats.length uc V.gap V.radius (!deadN V q) (deadN V q) (byN V q) hlq (by omega) (by cases deadN V q <;> rfl) hbl (HX.out.next HBY.out) hu1 hu2 (Nat.lt_of_lt_of_le HGL4.out HY.out.size) hdc rfl rfl rfl rfl ?_ ?_
              · intro w hw
                have := by_any _ _ _ _ _ _ _ _ _ V q w (HV.out.next (HBY.out.trans (hw.mono HBY.out.size)))
                rw [byB_nat HM.out hlq] at this; exact this
              intro w5 r1 hb5
              have HY5 := hid' (HY.out.trans (hb5.mono HY.out.size))
              clear hb5 hu1 hu2 hdc hbl HY
              generalize deadN V q = d at *
              simp only [Ven.putAll, List.setIfInBounds_toArray, List.set_cons_succ, List.set_cons_zero]
              go_wp2_with fail
              exact ⟨⟨q + 1, by omega, by go_num, HY5⟩, by simp [intOf]; omega⟩
            · have hlqz : ¬ (q : Int) < (V.seats.length : Int) := by omega
              go_wp2_with fail
              refine (told_any _).mono ?_
              rintro e w5 ⟨rfl, hb5⟩
              have HB5 := hid' (HBY.out.trans (hb5.mono HBY.out.size))
              have hmay := rmay_any _ _ _ _ _ _ _ _ _ V w5 (HV.out.next HB5.out)
              rw [HM.out] at hmay
              clear hb5
              obtain ⟨v0, v1, v2, v3, v4⟩ := (HX.out.next HB5.out).five
              go_wp2_with fail
              refine hmay.mono ?_
              rintro e w6 ⟨rfl, hb6⟩
              have HF := hid' (HB2.out.trans ((HB5.out.trans (hb6.mono HB5.out.size)).mono HB2.out.size))
              clear hb6 hmay v0 v1 v2 v3 v4
              go_wp2
              go_ret
              exact ⟨rfl, HF.out⟩
end Go.Proofs.Ytbmmjbklfheghaa.Kll
