/- parterrelaw3.Make by its contract: what it makes may be. -/
import Derived.Test.YtbmmjbklfheghaaVMakeP
import Derived.Deep.LoopGhost
import Derived.Deep.CutBlock
import Derived.Deep.CutRange
import Derived.Deep.DeepCutAuto
namespace Go.Proofs.Ytbmmjbklfheghaa.Ven
set_option linter.unusedVariables false
set_option maxRecDepth 100000
open Go.RowKit Go.Shelf

theorem wrap_nat (z : Int) : ∃ U : Nat, IntKind.u64.wrap z = (U : Int) := by
  have hw : 0 ≤ IntKind.u64.wrap z := by
    unfold IntKind.wrap
    simp [IntKind.signed, IntKind.bits]
    omega
  exact ⟨(IntKind.u64.wrap z).toNat, by omega⟩
theorem mst_start (w : World) : MSt w (((w.alloc (.cells Zero5 26)).alloc (.cells #[.int .i64 0, .int .i64 0, .int .i64 0, .int .i64 0] 44)).alloc (.cells #[.slice (some ⟨w.heap.size + 1, 0, none⟩) 1 1, .int .i64 10, .int .i64 0, .slice none 0 0, .slice none 0 0] 26)) (some ⟨w.heap.size + 1, 0, none⟩) 1 none 0 none 0 ⟨[⟨0, 0, 0, 0⟩], 10, 0, [], []⟩ := by
  have k1 := ((Box.fresh w 26 Zero5).next (below_alloc _ (.cells #[.int .i64 0, .int .i64 0, .int .i64 0, .int .i64 0] 44))).next (below_alloc _ (.cells #[.slice (some ⟨w.heap.size + 1, 0, none⟩) 1 1, .int .i64 10, .int .i64 0, .slice none 0 0, .slice none 0 0] 26))
  have k2 := (Box.fresh (w.alloc (.cells Zero5 26)) 44 #[.int .i64 0, .int .i64 0, .int .i64 0, .int .i64 0]).next (below_alloc _ (.cells #[.slice (some ⟨w.heap.size + 1, 0, none⟩) 1 1, .int .i64 10, .int .i64 0, .slice none 0 0, .slice none 0 0] 26))
  have k3 := Box.fresh ((w.alloc (.cells Zero5 26)).alloc (.cells #[.int .i64 0, .int .i64 0, .int .i64 0, .int .i64 0] 44)) 26 #[.slice (some ⟨w.heap.size + 1, 0, none⟩) 1 1, .int .i64 10, .int .i64 0, .slice none 0 0, .slice none 0 0]
  simp only [World.size_alloc] at k2 k3
  exact {
    below := ((below_alloc w _).alloc (by simp) _).alloc (by simp; omega) _
    sz := by simp; omega
    b4 := k1
    b5 := k3
    so := ⟨rfl, .inr ⟨w.heap.size + 1, 1, _, rfl, by omega, k2, Nat.le_refl _, by decide, rfl, rfl⟩⟩
    ko := World.ownsRow_nil _ _ _ _
    po := World.ownsRow_nil _ _ _ _ }

/-- What Make hands back: a venue that may be. -/
def Made (w : World) (most : Nat) (e : Ending) (w' : World) : Prop :=
  ∃ V az cs ak ck ap cp row x, e = .returned (venV az V.seats.length cs V.gap V.radius ak V.kills.length ck ap V.poles.length cp) ∧ VenAt w' az V.seats.length cs ak V.kills.length ck ap V.poles.length cp V ∧ MkOK V row x ∧ V.seats.length ≤ most ∧ Below w.heap.size w w'
/-- The same, and its seats, kills and poles are rows of their own. -/
def MadeO (w : World) (most : Nat) (e : Ending) (w' : World) : Prop :=
  ∃ V az cs ak ck ap cp row x, e = .returned (venV az V.seats.length cs V.gap V.radius ak V.kills.length ck ap V.poles.length cp) ∧ VenAt w' az V.seats.length cs ak V.kills.length ck ap V.poles.length cp V ∧ MkOK V row x ∧ V.seats.length ≤ most ∧ Below w.heap.size w w' ∧ w'.ownsRow w.heap.size 44 4 (.slice az V.seats.length cs) V.seats.length (V.seats.flatMap seatC) ∧ w'.ownsRow w.heap.size 41 3 (.slice ap V.poles.length cp) V.poles.length (V.poles.flatMap poleC) ∧ w'.ownsRow w.heap.size 3 1 (.slice ak V.kills.length ck) V.kills.length (V.kills.flatMap intC)
theorem MadeO.made {w w' : World} {most : Nat} {e : Ending} (h : MadeO w most e w') : Made w most e w' := by
  obtain ⟨V, az, cs, ak, ck, ap, cp, row, x, h1, h2, h3, h4, h5, _⟩ := h
  exact ⟨V, az, cs, ak, ck, ap, cp, row, x, h1, h2, h3, h4, h5⟩
set_option maxRecDepth 100000 in
set_option maxHeartbeats 4000000 in
theorem make_own_some (l : List Int) (b off cap : Nat) (most : Nat) (h2 : most ≤ 30) (h1 : 1 ≤ most) (hl : l.length ≤ maxLen) (w : World) (hC : Cells 1 intC w b off l) :
    Calls Try.prog 16 #[.slice (some ⟨b, off, none⟩) l.length cap, .int .i64 most] w fun e w' => MadeO w most e w' := by
  have HC : Hid (Cells 1 intC w b off l) := hC
  clear hC
  unfold maxLen at hl
  have hst := mst_start w
  go_enter Try.func16, Try.ntmps16
  go_wp2_with fail
  go_loopg [6, 7, 8, 9, 10] l.length (fun g s6 s7 s8 s9 s10 wr => ∃ (j : Nat) (row x : Int) (V : Ven) (az : Option Addr) (cs : Nat) (ak : Option Addr) (ck : Nat) (ap : Option Addr) (cp : Nat), j ≤ l.length ∧ g = l.length - j ∧ s6 = .int .i64 row ∧ s7 = .int .i64 x ∧ s8 = .int .i64 j ∧ V.seats.length = j + 1 ∧ j + 1 ≤ most ∧ MkOK V row x ∧ MSt w wr az cs ak ck ap cp V)
  case atStart => exact ⟨0, 0, 0, _, _, _, _, _, _, _, Nat.zero_le _, rfl, rfl, rfl, rfl, rfl, h1, mk_start, hst⟩
  case round =>
    clear hst
    obtain ⟨j, row, x, V, az, cs, ak, ck, ap, cp, hj, rfl, rfl, rfl, rfl, hlen, hjm, hok, st⟩ := hrel
    have y0 := st.b5.cell 0 _ rfl
    have yl := st.b5.lt
    have bx0 := hok.x0
    have bx1 : x ≤ 450 := by have := hok.x1; omega
    have br0 := hok.r0
    have br1 : row ≤ 30 := by have := hok.r1; omega
    have HL : Hid (V.seats.length = j + 1) := hlen
    by_cases hlt : j < l.length
    · have hltz : (j : Int) < (l.length : Int) := by omega
      by_cases hm : j + 1 < most
      · have c0 := (HC.out.next st.below).int j hlt
        generalize l[j] = z at c0
        obtain ⟨U, hU⟩ := wrap_nat z
        obtain ⟨k6, l6, e6⟩ := mod_u64 ((U : Int) / 7) 6 (by omega)
        obtain ⟨k9, l9, e9⟩ := mod_u64 ((U : Int) / 42) 9 (by omega)
        obtain ⟨k11, l11, e11⟩ := mod_u64 ((U : Int) / 42) 11 (by omega)
        obtain ⟨k5, l5, e5⟩ := mod_u64 ((U : Int) / 42) 5 (by omega)
        obtain ⟨k12, l12, e12⟩ := mod_u64 ((U : Int) / 500) 12 (by omega)
        obtain ⟨k25, l25, e25⟩ := mod_u64 ((U : Int) / 300) 25 (by omega)
        have hlz : (V.seats.length : Int) < (most : Int) := by omega
        have HOK : Hid (MkOK V row x) := hok
        clear hlen hok
        go_upto_block 2 with fail
        go_cut [6, 7] from 14 to 104 (fun s6 s7 wx => ∃ row' x' : Int, s6 = .int .i64 row' ∧ s7 = .int .i64 x' ∧ wr = wx ∧ ((row' = row + 1 ∧ x' = 0) ∨ (row' = row ∧ x < x' ∧ x' ≤ x + 15)))
        case first =>
          by_cases h7 : (U : Int) % 7 = 0
          · have h7' : ((U : Int) % 7 == 0) = true := by simpa using h7
            clear h7
            go_wp2_with fail
            go_meet
            exact ⟨row + 1, 0, rfl, rfl, rfl, .inl ⟨rfl, rfl⟩⟩
          · have h7' : ((U : Int) % 7 == 0) = false := by simpa using h7
            by_cases h71 : (U : Int) % 7 = 1
            · have h71' : ((U : Int) % 7 == 1) = true := by simpa using h71
              clear h7 h71
              go_wp2_with fail
              go_meet
              exact ⟨row, x + 10 + 5, rfl, rfl, rfl, .inr ⟨rfl, by omega, by omega⟩⟩
            · have h71' : ((U : Int) % 7 == 1) = false := by simpa using h71
              clear h7 h71
              go_wp2_with fail
              go_meet
              exact ⟨row, x + 10, rfl, rfl, rfl, .inr ⟨rfl, by omega, by omega⟩⟩
        case rest =>
        obtain ⟨row', x', rfl, rfl, rfl, hnx⟩ := hcut
        have cx0 : 0 ≤ x' := by omega
        have cx1 : x' ≤ 465 := by omega
        have cr0 : 0 ≤ row' := by omega
        have cr1 : row' ≤ 31 := by omega
        have HNX : Hid ((row' = row + 1 ∧ x' = 0) ∨ (row' = row ∧ x < x' ∧ x' ≤ x + 15)) := hnx
        clear hnx bx0 bx1 br0 br1
        go_upto_block 3 with fail
        go_cut [] from 14 to 104 (fun wx => ∃ kk : Int, 0 ≤ kk ∧ kk ≤ 2 ∧ wx = wr.alloc (.cells #[.int .i64 row', .int .i64 x', .int .i64 (10 * row'), .int .i64 kk] 44))
        case first =>
          by_cases g0 : (k6 : Int) = 0
          · have g0' : ((k6 : Int) == 0) = true := by simpa using g0
            clear g0
            go_wp2_with fail
            go_meet
            exact ⟨1, by omega, by omega, rfl⟩
          · have g0' : ((k6 : Int) == 0) = false := by simpa using g0
            by_cases g1 : (k6 : Int) = 1
            · have g1' : ((k6 : Int) == 1) = true := by simpa using g1
              clear g0 g1
              go_wp2_with fail
              go_meet
              exact ⟨2, by omega, by omega, rfl⟩
            · have g1' : ((k6 : Int) == 1) = false := by simpa using g1
              by_cases g2 : (k6 : Int) = 2
              · have g2' : ((k6 : Int) == 2) = true := by simpa using g2
                clear g0 g1 g2
                go_wp2_with fail
                go_meet
                exact ⟨2, by omega, by omega, rfl⟩
              · have g2' : ((k6 : Int) == 2) = false := by simpa using g2
                clear g0 g1 g2
                go_wp2_with fail
                go_meet
                exact ⟨0, by omega, by omega, rfl⟩
        case rest =>
        obtain ⟨kk, hk0, hk2, rfl⟩ := hcut
        have hbn := below_alloc wr (.cells #[.int .i64 row', .int .i64 x', .int .i64 (10 * row'), .int .i64 kk] 44)
        have sn := (Box.fresh wr 44 #[.int .i64 row', .int .i64 x', .int .i64 (10 * row'), .int .i64 kk])
        have stn := st.next hbn
        obtain ⟨i0, hi, hz0, hz1, hz2⟩ := info34
        have q0 := sn.cell 0 _ rfl
        have q1 := sn.cell 1 _ rfl
        have q2 := sn.cell 2 _ rfl
        have q3 := sn.cell 3 _ rfl
        have n0 := stn.b5.cell 0 _ rfl
        have nl := stn.b5.lt
        have nl2 := sn.lt
        have stm := stn.next (below_alloc _ (.cells #[.int .i64 row', .int .i64 x', .int .i64 (10 * row'), .int .i64 kk] 44))
        generalize hW1 : wr.alloc (.cells #[.int .i64 row', .int .i64 x', .int .i64 (10 * row'), .int .i64 kk] 44) = W1 at *
        clear hbn
        go_wp2_with (at_builtin; refine wpList_append_own _ rfl _ _ 22 rfl w.heap.size 44 i0 (seatV 0 0 0 0) 4 32 Try.underlying22 hi hz0 hz1 hz2 rfl (by omega) _ _ _ rfl stm.so ⟨W1.heap.size, 0, none⟩ 1 1 (seatC ⟨row', x', 10 * row', kk⟩) rfl ?qc1 ?qc2 ?qc3 ?qc4 ?qc5 ?qc6 ?_)
        case qc1 => rfl
        case qc2 =>
          intro t u ht
          rw [Addr.add_lit, Nat.zero_add, World.cell?_alloc_at _ _ _ _ rfl]
          show (seatC ⟨row', x', 10 * row', kk⟩).toArray[t]? = some u
          rw [List.getElem?_toArray]; exact ht
        case qc3 => intro u hu; simp [seatC] at hu; rcases hu with rfl | rfl | rfl | rfl <;> rfl
        case qc4 => have := HL.out; unfold maxLen; omega
        case qc5 => have := HL.out; omega
        case qc6 => exact stm.sz
        intro v2 W2 hown2 hgr2 _
        obtain ⟨az2, cs2, rfl⟩ := row_slice hown2
        have hx2 := stm.b5.grown hgr2 (stm.b5.not_row (by decide) stm.so)
        have m0 := hx2.cell 0 _ rfl
        have mf := hx2.frozen 0
        have ml := hx2.lt
        have st2 := stm.seat ⟨row', x', 10 * row', kk⟩ hown2 hgr2
        have hok2 := HOK.out.seat (by have := HL.out; omega) row' x' kk hk0 hk2 HNX.out
        have hkb : ∀ k ∈ V.kills, k < (V.seats.length : Int) := fun k hk => (HOK.out.kl k hk).2
        have hpb : V.poles.length < V.seats.length + 1 := Nat.lt_succ_of_le HOK.out.pn
        clear q0 q1 q2 q3 n0 nl nl2 sn stn stm hown2 hgr2 y0 yl st
        have hlen2 : (V.seats ++ [(⟨row', x', 10 * row', kk⟩ : Seat)]).length = V.seats.length + 1 := by simp
        generalize hV2 : ({ V with seats := V.seats ++ [⟨row', x', 10 * row', kk⟩] } : Ven) = V2 at st2 hok2
        have f1 : V2.seats.length = V.seats.length + 1 := by rw [← hV2]; exact hlen2
        have f2 : V2.kills = V.kills := by rw [← hV2]
        have f3 : V2.poles = V.poles := by rw [← hV2]
        have hkb2 : ∀ k ∈ V2.kills, k < (V2.seats.length : Int) - 1 := by
          intro k hk; rw [f2] at hk; have := hkb k hk; omega
        have hpb2 : V2.poles.length < V2.seats.length := by rw [f3]; omega
        have HL2 : Hid (V2.seats.length = j + 2) := by show _ = _; rw [f1, HL.out]
        have bl2 : (V2.seats.length : Int) ≤ 32 := by have := HL.out; omega
        have HF1 : Hid (V2.seats.length = V.seats.length + 1) := f1
        clear f1 f2 f3 hV2 hlen2 hkb hpb HF1 hW1 hx2 HOK HNX
        go_upto_if 68 with fail
        clear ml mf m0
        generalize W2.setCell ⟨w.heap.size + 1 + 1, 0, none⟩ (.slice az2 (V.seats.length + 1) cs2) = W3 at st2 ⊢
        go_cut [] from 14 to 104 (fun wx => ∃ (V3 : Ven) (ak3 : Option Addr) (ck3 : Nat), MSt w wx az2 cs2 ak3 ck3 ap cp V3 ∧ MkOK V3 row' x' ∧ V3.seats.length = V2.seats.length ∧ V3.poles.length < V3.seats.length)
        case first =>
          have u0 := st2.b5.cell 0 _ rfl
          have u3 := st2.b5.cell 3 _ rfl
          have ul := st2.b5.lt
          by_cases g9 : (k9 : Int) = 0
          · have g9' : ((k9 : Int) == 0) = true := by simpa using g9
            clear g9
            obtain ⟨i3, hi3, hy0, hy1, hy2⟩ := info3
            have stk := st2.next (below_alloc W3 (.cells #[.int .i64 ((V2.seats.length : Int) - 1)] 3))
            have hkn : V2.kills.length ≤ 32 := by have := hok2.kn; omega
            go_wp2_with (at_builtin; refine wpList_append_own _ rfl _ _ 23 rfl w.heap.size 3 i3 (.int .i64 0) 1 8 Try.underlying23 hi3 hy0 hy1 hy2 rfl (by omega) _ _ _ rfl stk.ko ⟨W3.heap.size, 0, none⟩ 1 1 [.int .i64 ((V2.seats.length : Int) - 1)] rfl ?qc1 ?qc2 ?qc3 ?qc4 ?qc5 ?qc6 ?_)
            case qc1 => rfl
            case qc2 =>
              intro t u ht
              rw [Addr.add_lit, Nat.zero_add, World.cell?_alloc_at _ _ _ _ rfl]
              show [Value.int .i64 ((V2.seats.length : Int) - 1)].toArray[t]? = some u
              rw [List.getElem?_toArray]; exact ht
            case qc3 => intro u hu; simp at hu; subst hu; rfl
            case qc4 => unfold maxLen; omega
            case qc5 => omega
            case qc6 => exact stk.sz
            intro v4 W4 hown4 hgr4 _
            obtain ⟨ak4, ck4, rfl⟩ := row_slice hown4
            have hx4 := stk.b5.grown hgr4 (stk.b5.not_row (by decide) stk.ko)
            have r3 := hx4.cell 3 _ rfl
            have rf := hx4.frozen 3
            have rl := hx4.lt
            have st4 := stk.kill ((V2.seats.length : Int) - 1) hown4 hgr4
            have hok4 := hok2.kill hkb2
            clear u0 u3 stk hown4 hgr4 hx4
            go_wp2_with fail
            go_meet
            exact ⟨_, ak4, ck4, st4, hok4, rfl, hpb2⟩
          · have g9' : ((k9 : Int) == 0) = false := by simpa using g9
            clear g9
            go_wp2_with fail
            go_meet
            exact ⟨V2, ak, ck, st2, hok2, rfl, hpb2⟩
        case rest =>
        obtain ⟨V3, ak3, ck3, st3, hok3, f31, hpb3⟩ := hcut
        have HL3 : Hid (V3.seats.length = j + 2) := by show _ = _; rw [f31, HL2.out]
        have bl3 : (V3.seats.length : Int) ≤ 32 := by omega
        clear st2 hok2 hkb2 hpb2 f31 bl2 HL2
        go_upto_if 81 with fail
        go_cut [] from 14 to 104 (fun wx => ∃ (V4 : Ven) (ap4 : Option Addr) (cp4 : Nat), MSt w wx az2 cs2 ak3 ck3 ap4 cp4 V4 ∧ MkOK V4 row' x' ∧ V4.seats.length = V3.seats.length)
        case first =>
          have u4 := st3.b5.cell 4 _ rfl
          have ul := st3.b5.lt
          by_cases g11 : (k11 : Int) = 1
          · have g11' : ((k11 : Int) == 1) = true := by simpa using g11
            clear g11
            obtain ⟨i3, hi3, hy0, hy1, hy2⟩ := info39
            have stk := st3.next (below_alloc wc (.cells #[.int .i64 x', .int .i64 (10 * row'), .int .i64 (1 + (k12 : Int))] 41))
            have hpn : V3.poles.length ≤ 32 := by omega
            go_wp2_with (at_builtin; refine wpList_append_own _ rfl _ _ 24 rfl w.heap.size 41 i3 (poleV 0 0 0) 3 24 Try.underlying24 hi3 hy0 hy1 hy2 rfl (by omega) _ _ _ rfl stk.po ⟨wc.heap.size, 0, none⟩ 1 1 (poleC ⟨x', 10 * row', 1 + (k12 : Int)⟩) rfl ?qc1 ?qc2 ?qc3 ?qc4 ?qc5 ?qc6 ?_)
            case qc1 => rfl
            case qc2 =>
              intro t u ht
              rw [Addr.add_lit, Nat.zero_add, World.cell?_alloc_at _ _ _ _ rfl]
              show (poleC ⟨x', 10 * row', 1 + (k12 : Int)⟩).toArray[t]? = some u
              rw [List.getElem?_toArray]; exact ht
            case qc3 => intro u hu; simp [poleC] at hu; rcases hu with rfl | rfl | rfl <;> rfl
            case qc4 => unfold maxLen; omega
            case qc5 => omega
            case qc6 => exact stk.sz
            intro v4 W4 hown4 hgr4 _
            obtain ⟨ap4, cp4, rfl⟩ := row_slice hown4
            have hx4 := stk.b5.grown hgr4 (stk.b5.not_row (by decide) stk.po)
            have r3 := hx4.cell 4 _ rfl
            have rf := hx4.frozen 4
            have rl := hx4.lt
            have st4 := stk.pole ⟨x', 10 * row', 1 + (k12 : Int)⟩ hown4 hgr4
            have hok4 := hok3.pole (by omega) (1 + (k12 : Int)) (by omega) hpb3
            clear u4 stk hown4 hgr4 hx4
            go_wp2_with fail
            go_meet
            exact ⟨_, ap4, cp4, st4, hok4, rfl⟩
          · have g11' : ((k11 : Int) == 1) = false := by simpa using g11
            clear g11
            go_wp2_with fail
            go_meet
            exact ⟨V3, ap, cp, st3, hok3, rfl⟩
        case rest =>
        obtain ⟨V4, ap4, cp4, st4, hok4, f41⟩ := hcut
        have HL4 : Hid (V4.seats.length = j + 2) := by show _ = _; rw [f41, HL3.out]
        clear st3 hok3 hpb3 f41 bl3 HL3
        have u2 := st4.b5.cell 2 _ rfl
        have u2f := st4.b5.frozen 2
        have ul := st4.b5.lt
        by_cases g5 : (k5 : Int) = 3
        · have g5' : ((k5 : Int) == 3) = true := by simpa using g5
          have st5 := st4.radius (k25 : Int)
          have hok5 := hok4.radius (k25 : Int) (by omega)
          clear g5 st4 hok4
          go_wp2_with fail
          go_roundg (l.length - (j + 1))
          case measure => omega
          case rel => exact ⟨j + 1, row', x', { V4 with radius := (k25 : Int) }, az2, cs2, ak3, ck3, ap4, cp4, by omega, rfl, rfl, rfl, by go_num, HL4.out, by omega, hok5, st5⟩
        · have g5' : ((k5 : Int) == 3) = false := by simpa using g5
          clear g5
          go_wp2_with fail
          go_roundg (l.length - (j + 1))
          case measure => omega
          case rel => exact ⟨j + 1, row', x', _, az2, cs2, ak3, ck3, ap4, cp4, by omega, rfl, rfl, rfl, by go_num, HL4.out, by omega, hok4, st4⟩
      · have hlz : ¬ ((V.seats.length : Int) < (most : Int)) := by omega
        obtain ⟨y0', y1, y2, y3, y4⟩ := st.b5.five
        obtain ⟨z0, z1, z2, z3, z4⟩ := st.b4.five
        have zl := st.b4.lt
        have zf0 := st.b4.frozen 0
        have zf1 := st.b4.frozen 1
        have zf2 := st.b4.frozen 2
        have zf3 := st.b4.frozen 3
        have zf4 := st.b4.frozen 4
        have HOK : Hid (MkOK V row x) := hok
        clear hok hlen
        go_wp2_with fail
        refine bodyPost_ret (v := venV az V.seats.length cs V.gap V.radius ak V.kills.length ck ap V.poles.length cp) (by simp [results, Try.results16, go_sem, z0, z1, z2, z3, z4]) rfl ⟨V, az, cs, ak, ck, ap, cp, row, x, rfl, ?_, HOK.out, by have := HL.out; omega, ?_, row_set5 st.b4 (by decide) st.so _ _ _ _ _, row_set5 st.b4 (by decide) st.po _ _ _ _ _, row_set5 st.b4 (by decide) st.ko _ _ _ _ _⟩
        · exact ⟨row_sl seatC_len (row_set5 st.b4 (by decide) st.so _ _ _ _ _), row_sl intC_len (row_set5 st.b4 (by decide) st.ko _ _ _ _ _), row_sl poleC_len (row_set5 st.b4 (by decide) st.po _ _ _ _ _)⟩
        · exact Below.setCell (Below.setCell (Below.setCell (Below.setCell (Below.setCell st.below (Nat.le_refl _) _) (Nat.le_refl _) _) (Nat.le_refl _) _) (Nat.le_refl _) _) (Nat.le_refl _) _
    · have hltz : ¬ ((j : Int) < (l.length : Int)) := by omega
      obtain ⟨y0', y1, y2, y3, y4⟩ := st.b5.five
      obtain ⟨z0, z1, z2, z3, z4⟩ := st.b4.five
      have zl := st.b4.lt
      have zf0 := st.b4.frozen 0
      have zf1 := st.b4.frozen 1
      have zf2 := st.b4.frozen 2
      have zf3 := st.b4.frozen 3
      have zf4 := st.b4.frozen 4
      have HOK : Hid (MkOK V row x) := hok
      clear hok hlen
      go_wp2_with fail
      refine bodyPost_ret (v := venV az V.seats.length cs V.gap V.radius ak V.kills.length ck ap V.poles.length cp) (by simp [results, Try.results16, go_sem, z0, z1, z2, z3, z4]) rfl ⟨V, az, cs, ak, ck, ap, cp, row, x, rfl, ?_, HOK.out, by have := HL.out; omega, ?_, row_set5 st.b4 (by decide) st.so _ _ _ _ _, row_set5 st.b4 (by decide) st.po _ _ _ _ _, row_set5 st.b4 (by decide) st.ko _ _ _ _ _⟩
      · exact ⟨row_sl seatC_len (row_set5 st.b4 (by decide) st.so _ _ _ _ _), row_sl intC_len (row_set5 st.b4 (by decide) st.ko _ _ _ _ _), row_sl poleC_len (row_set5 st.b4 (by decide) st.po _ _ _ _ _)⟩
      · exact Below.setCell (Below.setCell (Below.setCell (Below.setCell (Below.setCell st.below (Nat.le_refl _) _) (Nat.le_refl _) _) (Nat.le_refl _) _) (Nat.le_refl _) _) (Nat.le_refl _) _
theorem make_some (l : List Int) (b off cap : Nat) (most : Nat) (h2 : most ≤ 30) (h1 : 1 ≤ most) (hl : l.length ≤ maxLen) (w : World) (hC : Cells 1 intC w b off l) :
    Calls Try.prog 16 #[.slice (some ⟨b, off, none⟩) l.length cap, .int .i64 most] w fun e w' => Made w most e w' :=
  (make_own_some l b off cap most h2 h1 hl w hC).mono fun _ _ h => h.made
end Go.Proofs.Ytbmmjbklfheghaa.Ven
