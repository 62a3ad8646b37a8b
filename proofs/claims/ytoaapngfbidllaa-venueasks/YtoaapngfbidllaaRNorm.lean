/- parterreref2.Norm by its contract. -/
import Derived.Test.YtoaapngfbidllaaRInsN
import Derived.Test.YtoaapngfbidllaaRInsS
import Derived.Test.YtoaapngfbidllaaRKill
import Derived.Test.YtoaapngfbidllaaRPut
import Derived.Test.YtoaapngfbidllaaRWrong
import Derived.Test.YtoaapngfbidllaaRAgree
namespace Go.Proofs.Ytoaapngfbidllaa
set_option linter.unusedVariables false
open Go.RowKit Go.Shelf

/-- What the walk holds: the boxes, and the rows that the new venue has so far. -/
structure RSt (w : World) (V : Ven) (B1 B2 B4 : Nat) (vc : Array Value) (az : Option Addr) (cs : Nat) (ak : Option Addr) (m ck : Nat) (a3 : Option Addr) (n3 c3 : Nat) (S : List Seat) (K : List Int) (wr : World) : Prop where
  below : Below w.heap.size w wr
  b1 : Box wr B1 26 vc
  b2 : Box wr B2 26 Zero5
  u : Box wr B4 26 #[.slice az S.length cs, .int .i64 V.gap, .int .i64 V.radius, .slice ak m ck, .slice a3 n3 c3]
  ge : w.heap.size ≤ B4
  b41 : B1 ≠ B4
  b42 : B2 ≠ B4
  so : SlN 4 seatC wr B4 (.slice az S.length cs) S
  ko : SlN 1 intC wr B4 (.slice ak m ck) K
variable {w : World} {V : Ven} {B1 B2 B4 : Nat} {vc : Array Value} {az : Option Addr} {cs : Nat} {ak : Option Addr} {m ck : Nat} {a3 : Option Addr} {n3 c3 : Nat} {S : List Seat} {K : List Int} {wr : World}
theorem RSt.next (h : RSt w V B1 B2 B4 vc az cs ak m ck a3 n3 c3 S K wr) {w' : World} (hb : Below wr.heap.size wr w') : RSt w V B1 B2 B4 vc az cs ak m ck a3 n3 c3 S K w' :=
  { below := h.below.trans (hb.mono h.below.size), b1 := h.b1.next hb, b2 := h.b2.next hb, u := h.u.next hb, ge := h.ge, b41 := h.b41, b42 := h.b42, so := h.so.next hb, ko := h.ko.next hb }
/-- Other seats. -/
theorem RSt.seat (h : RSt w V B1 B2 B4 vc az cs ak m ck a3 n3 c3 S K wr) {w2 : World} (hb : Below wr.heap.size wr w2) {az2 : Option Addr} {cs2 : Nat} {S2 : List Seat} (hs : SlN 4 seatC w2 B4 (.slice az2 S2.length cs2) S2) :
    RSt w V B1 B2 B4 vc az2 cs2 ak m ck a3 n3 c3 S2 K (w2.setCell ⟨B4, 0, none⟩ (.slice az2 S2.length cs2)) :=
  { below := Below.setCell (h.below.trans (hb.mono h.below.size)) h.ge _, b1 := (h.b1.next hb).other B4 0 h.b41 _, b2 := (h.b2.next hb).other B4 0 h.b42 _, u := (h.u.next hb).set 0 _, ge := h.ge, b41 := h.b41, b42 := h.b42, so := hs.set _ (Nat.le_refl _) 0 _, ko := (h.ko.next hb).set _ (Nat.le_refl _) 0 _ }
/-- Other kills. -/
theorem RSt.kill (h : RSt w V B1 B2 B4 vc az cs ak m ck a3 n3 c3 S K wr) {w2 : World} (hb : Below wr.heap.size wr w2) {ak2 : Option Addr} {m2 ck2 : Nat} {K2 : List Int} (hs : SlN 1 intC w2 B4 (.slice ak2 m2 ck2) K2) :
    RSt w V B1 B2 B4 vc az cs ak2 m2 ck2 a3 n3 c3 S K2 (w2.setCell ⟨B4, 3, none⟩ (.slice ak2 m2 ck2)) :=
  { below := Below.setCell (h.below.trans (hb.mono h.below.size)) h.ge _, b1 := (h.b1.next hb).other B4 3 h.b41 _, b2 := (h.b2.next hb).other B4 3 h.b42 _, u := (h.u.next hb).set 3 _, ge := h.ge, b41 := h.b41, b42 := h.b42, so := (h.so.next hb).set _ (Nat.le_refl _) 3 _, ko := hs.set _ (Nat.le_refl _) 3 _ }
theorem SlN.slice {α : Type} {k : Nat} {enc : α → List Value} {w : World} {g : Nat} {v : Value} {l : List α} (h : SlN k enc w g v l) : ∃ a c, v = .slice a l.length c := by
  rcases h with ⟨h, rfl⟩ | ⟨b, off, cap, h, _⟩
  · exact ⟨none, 0, h⟩
  · exact ⟨_, cap, h⟩
theorem SlN.pos {α : Type} {k : Nat} {enc : α → List Value} {w : World} {g : Nat} {a : Option Addr} {n c : Nat} {l : List α} (h : SlN k enc w g (.slice a n c) l) (h0 : 0 < l.length) : ∃ b off, a = some ⟨b, off, none⟩ ∧ l.length ≤ c ∧ c ≤ maxLen ∧ Cells k enc w b off l := by
  rcases h with ⟨_, hn⟩ | ⟨b, off, cap, he, _, h2, h3, _, hC⟩
  · rw [hn] at h0; simp at h0
  · cases he; exact ⟨b, off, rfl, h2, h3, hC⟩
theorem SlN.nil {α : Type} {k : Nat} {enc : α → List Value} {w : World} {g : Nat} {a : Option Addr} {n c : Nat} (h : SlN k enc w g (.slice a n c) ([] : List α)) : a = none ∧ c = 0 := by
  rcases h with ⟨h, _⟩ | ⟨b, off, cap, he, h0, _⟩
  · cases h; exact ⟨rfl, rfl⟩
  · simp at h0
/-- How it ends. -/
def RNRes (V : Ven) (w : World) (e : Ending) (w' : World) : Prop := ∃ r, RNormTo V r ∧ NormRes e w' r ∧ Below w.heap.size w w'
theorem rnres_panic {V : Ven} {w w' : World} {p : List PanicEntry} (h : ∃ r, RNormTo V r ∧ NormRes (.panicked p) w' r ∧ Below w.heap.size w w') : False := by
  obtain ⟨r, _, h, _⟩ := h
  cases r with
  | none => cases h
  | some U => obtain ⟨_, _, _, _, _, _, _, _, _, h, _⟩ := h; cases h
set_option maxRecDepth 100000 in
set_option maxHeartbeats 16000000 in
theorem rnorm_walk (a1 a2 a3 : Option Addr) (c1 c2 n3 c3 : Nat) (V : Ven) (w : World) (h : VenAt w a1 V.seats.length c1 a2 V.kills.length c2 a3 n3 c3 V) (h1 : V.seats.length ≤ 4096) (h2 : V.kills.length ≤ 4096) :
    Calls Try.prog 12 #[venV a1 V.seats.length c1 V.gap V.radius a2 V.kills.length c2 a3 n3 c3] w fun e w' => RNRes V w e w' := by
  have HV : Hid (VenAt w a1 V.seats.length c1 a2 V.kills.length c2 a3 n3 c3 V) := h
  clear h
  have k1 := ((Box.fresh w 26 #[.slice a1 V.seats.length c1, .int .i64 V.gap, .int .i64 V.radius, .slice a2 V.kills.length c2, .slice a3 n3 c3]).next (below_al _ (.cells Zero5 26))).next (below_al _ (.cells #[.slice none 0 0, .int .i64 V.gap, .int .i64 V.radius, .slice none 0 0, .slice a3 n3 c3] 26))
  have k2 := (Box.fresh (w.alloc (.cells #[.slice a1 V.seats.length c1, .int .i64 V.gap, .int .i64 V.radius, .slice a2 V.kills.length c2, .slice a3 n3 c3] 26)) 26 Zero5).next (below_al _ (.cells #[.slice none 0 0, .int .i64 V.gap, .int .i64 V.radius, .slice none 0 0, .slice a3 n3 c3] 26))
  have k4 := Box.fresh ((w.alloc (.cells #[.slice a1 V.seats.length c1, .int .i64 V.gap, .int .i64 V.radius, .slice a2 V.kills.length c2, .slice a3 n3 c3] 26)).alloc (.cells Zero5 26)) 26 #[.slice none 0 0, .int .i64 V.gap, .int .i64 V.radius, .slice none 0 0, .slice a3 n3 c3]
  simp only [World.size_alloc] at k2 k4
  have st : RSt w V w.heap.size (w.heap.size + 1) (w.heap.size + 1 + 1) #[.slice a1 V.seats.length c1, .int .i64 V.gap, .int .i64 V.radius, .slice a2 V.kills.length c2, .slice a3 n3 c3] none 0 none 0 0 a3 n3 c3 [] [] (((w.alloc (.cells #[.slice a1 V.seats.length c1, .int .i64 V.gap, .int .i64 V.radius, .slice a2 V.kills.length c2, .slice a3 n3 c3] 26)).alloc (.cells Zero5 26)).alloc (.cells #[.slice none 0 0, .int .i64 V.gap, .int .i64 V.radius, .slice none 0 0, .slice a3 n3 c3] 26)) :=
    { below := (((Below.refl _ w).alloc (Nat.le_refl _) _).alloc (by simp) _).alloc (by simp; omega) _, b1 := k1, b2 := k2, u := k4, ge := by omega, b41 := by omega, b42 := by omega, so := .inl ⟨rfl, rfl⟩, ko := .inl ⟨rfl, rfl⟩ }
  clear k1 k2 k4
  go_enter Try.func12, Try.ntmps12
  go_wp2_with fail
  go_loopw [5, 6] (fun i _ wr => ∃ (k : Nat) (az : Option Addr) (cs : Nat) (S : List Seat), k ≤ V.seats.length ∧ i = .int .i64 k ∧ RSt w V w.heap.size (w.heap.size + 1) (w.heap.size + 1 + 1) #[.slice a1 V.seats.length c1, .int .i64 V.gap, .int .i64 V.radius, .slice a2 V.kills.length c2, .slice a3 n3 c3] az cs none 0 0 a3 n3 c3 S [] wr ∧ Hid (S.Perm (V.seats.take k)) ∧ Hid (S.Pairwise (fun a b => ltS b a = false))) (fun i _ _ => V.seats.length - (intOf i).toNat)
  case atStart => exact ⟨0, none, 0, [], Nat.zero_le _, rfl, st, List.Perm.refl _, List.Pairwise.nil⟩
  case round =>
    clear st
    obtain ⟨k, az, cs, S, hk, rfl, st, HP, HSo⟩ := hrel
    have v0 := st.b1.cell 0 _ rfl
    have u0 := st.u.cell 0 _ rfl
    have v3 := st.b1.cell 3 _ rfl
    have vl := st.b1.lt
    have ul := st.u.lt
    have hSl : S.length = k := by rw [HP.out.length_eq, List.length_take]; omega
    have HSL : Hid (S.length = k) := hSl
    have hSb : S.length ≤ 4096 := by omega
    clear hSl
    by_cases hlt : k < V.seats.length
    · have hltz : (k : Int) < (V.seats.length : Int) := by omega
      have hk4 : (k : Int) ≤ 4096 := by omega
      obtain ⟨vb, vo, rfl, hCv0⟩ := cells_of_pos HV.out.s hlt
      have hCv : Hid (Cells 4 seatC w vb vo V.seats) := hCv0
      clear hCv0
      generalize hsk : V.seats[k] = sk
      obtain ⟨r, x, y, kk⟩ := sk
      have HSk : Hid (V.seats[k] = ⟨r, x, y, kk⟩) := hsk
      clear hsk
      go_wp2_with fail
      go_loopw [6] (fun x' wy => ∃ j : Nat, j ≤ S.length ∧ x' = .int .i64 j ∧ RSt w V w.heap.size (w.heap.size + 1) (w.heap.size + 1 + 1) #[.slice (some ⟨vb, vo, none⟩) V.seats.length c1, .int .i64 V.gap, .int .i64 V.radius, .slice a2 V.kills.length c2, .slice a3 n3 c3] az cs none 0 0 a3 n3 c3 S [] wy ∧ Hid (∀ q, j ≤ q → (hq : q < S.length) → ltS ⟨r, x, y, kk⟩ S[q] = true)) (fun x' _ => (intOf x').toNat)
      case atStart => exact ⟨S.length, Nat.le_refl _, rfl, st, by intro q h hq; omega⟩
      case round =>
        clear st v0 u0 v3 vl ul
        obtain ⟨j, hj, rfl, st2, HJ⟩ := hrel
        have hne : Nonempty (BelowOf wr) := ⟨⟨wr, Below.refl _ wr⟩⟩
        rcases Nat.eq_zero_or_pos j with hj0 | hj0
        · subst hj0
          go_wp2_with fail
          refine wp_region_quiet_below mixed (by kernel_rfl) ?_
          repeat (go_big_quiet_step (fail))
          refine wpQuiet_nil ?_
          intro _ hw'
          obtain ⟨p, hw''⟩ := hw'
          subst hw''
          have st3 := st2.next p.h
          clear st2
          cases S with
          | nil =>
            obtain ⟨e1, e2⟩ := st3.so.nil
            subst e1; subst e2
            have hTs := (hCv.out.next st3.below).seat k hlt
            have hTs' : SeatAt p.w vb (vo + k * 4) r x y kk := by rw [HSk.out] at hTs; exact hTs
            clear hTs
            go_wp2_with fail
            refine region12_8n _ ?_ k V.seats.length vb vo c1 hlt r x y kk _ _ _ _ _ _ _ _ w.heap.size (w.heap.size + 1 + 1) p.w st3.b1 hTs' st3.u _ _ _ _ _ _ _ _ _ _ _ _ _ _ _ _ _ _ _ _ _ _ _ _ _ _ _ _ _ _ _ _ _ _ _ _ _ _ _ _ _ _ _ _ _ _ _ _ _ _ _ _ _ _ _ _ _ _ _ _ _ _ _ _ _ _ _ _ _ _ _ _ _ _ _ _ _ _ _ _ _ _ _ _ _ _ _ _ _ _ _ _ _ _ _ _ _ _ _ _ _ _ _ _ _ _ _ _ _ _ _ _ _ _ _ _ _ _ _ _ _ _ _ _ _ _ _ _ _ _ _ _ ?_
            · intro c a a' w h; exact absurd h.2 (fun h => rnres_panic h)
            intro W' e0 g7 a8 c8 hb hown
            have st4 := st3.seat hb (S2 := [(⟨r, x, y, kk⟩ : Seat)]) (row_slN seatC_len (l := [(⟨r, x, y, kk⟩ : Seat)]) (by simpa using hown) (by simp) st3.u.lt)
            clear hown hb
            go_wp2_with fail
            refine ⟨⟨k + 1, a8, c8, [(⟨r, x, y, kk⟩ : Seat)], by omega, by go_num, st4, ?_, List.pairwise_singleton _ _⟩, by simp [intOf]; omega⟩
            show [(⟨r, x, y, kk⟩ : Seat)].Perm (V.seats.take (k + 1))
            rw [List.take_succ_eq_append_getElem hlt, HSk.out]
            exact (List.perm_append_comm (l₁ := [_])).trans (HP.out.append_right _) |>.trans (List.Perm.refl _)
          | cons s0 S0 =>
            generalize hS : s0 :: S0 = S at *
            have hS0 : 0 < S.length := by rw [← hS]; simp
            clear hS
            obtain ⟨b, off, rfl, _⟩ := st3.so.pos hS0
            have hTs := (hCv.out.next st3.below).seat k hlt
            have hTs' : SeatAt p.w vb (vo + k * 4) r x y kk := by rw [HSk.out] at hTs; exact hTs
            clear hTs
            go_wp2_with fail
            obtain ⟨A, hA⟩ : ∃ A : Addr, (if cs = 0 then some (⟨b, off, none⟩ : Addr) else some ⟨b, off + 0 * 4, none⟩) = some A := by
              by_cases h : cs = 0
              · exact ⟨_, if_pos h⟩
              · exact ⟨_, if_neg h⟩
            obtain ⟨_, _, e, hlc, hcm, hCs⟩ := st3.so.pos hS0
            cases e
            refine region12_8s _ ?_ S b off cs 0 (Nat.zero_le _) hlc (by omega) (by unfold maxLen at hcm; omega) A hA k V.seats.length vb vo c1 hlt r x y kk _ _ _ _ _ _ _ _ w.heap.size (w.heap.size + 1 + 1) p.w st3.b1 hTs' st3.u hCs _ _ _ _ _ _ _ _ _ _ _ _ _ _ _ _ _ _ _ _ _ _ _ _ _ _ _ _ _ _ _ _ _ _ _ _ _ _ _ _ _ _ _ _ _ _ _ _ _ _ _ _ _ _ _ _ _ _ _ _ _ _ _ _ _ _ _ _ _ _ _ _ _ _ _ _ _ _ _ _ _ _ _ _ _ _ _ _ _ _ _ _ _ _ _ _ _ _ _ _ _ _ _ _ _ _ _ _ _ _ _ _ _ _ _ _ _ _ _ _ _ _ _ _ _ _ _ _ _ _ _ _ ?_
            · intro c a a' w h; exact absurd h.2 (fun h => rnres_panic h)
            intro W' e0 a5 c5 g7 a8 c8 a13 c13 hb hown
            have hil := ins_len S (⟨r, x, y, kk⟩ : Seat) 0
            rw [ins_flat, ← hil] at hown
            have st4 := st3.seat hb (row_slN seatC_len hown (by rw [hil]; omega) st3.u.lt)
            rw [hil] at st4
            have HIns : Hid ((∀ a ∈ S.take 0, ltS (⟨r, x, y, kk⟩ : Seat) a = false) ∧ (∀ b ∈ S.drop 0, ltS b (⟨r, x, y, kk⟩ : Seat) = false)) := ins_sorted (⟨r, x, y, kk⟩ : Seat) 0 (Nat.zero_le _) HSo.out (by intro h; omega) HJ.out
            have HIL : Hid ((S.take 0 ++ [(⟨r, x, y, kk⟩ : Seat)] ++ S.drop 0).length = S.length + 1) := hil
            clear hown hb hil
            go_wp2_with fail
            refine ⟨⟨k + 1, a13, c13, S.take 0 ++ [(⟨r, x, y, kk⟩ : Seat)] ++ S.drop 0, by omega, by go_num, st4, ?_, ins_pairwise (⟨r, x, y, kk⟩ : Seat) 0 HSo.out HIns.out.1 HIns.out.2⟩, by simp [intOf]; omega⟩
            show (S.take 0 ++ [(⟨r, x, y, kk⟩ : Seat)] ++ S.drop 0).Perm (V.seats.take (k + 1))
            rw [List.take_succ_eq_append_getElem hlt, HSk.out]
            exact (ins_perm S (⟨r, x, y, kk⟩ : Seat) 0).trans ((List.Perm.cons _ HP.out).trans (List.perm_append_singleton _ _).symm)
        · have hjz : (0 : Int) < (j : Int) := by omega
          have hS0 : 0 < S.length := by omega
          have hj1 : j - 1 < S.length := by omega
          obtain ⟨b, off, rfl, _, _, hCs0⟩ := st2.so.pos hS0
          have hkm : ((j : Int) - 1) = ((j - 1 : Nat) : Int) := by omega
          have hj1z : ((j - 1 : Nat) : Int) < (S.length : Int) := by omega
          have v0 := fun p : BelowOf wr => (st2.next p.h).b1.cell 0 _ rfl
          have u0 := fun p : BelowOf wr => (st2.next p.h).u.cell 0 _ rfl
          have ts := fun p : BelowOf wr => (hCv.out.next (st2.next p.h).below).seat k hlt
          have tu := fun p : BelowOf wr => (hCs0.next p.h).seat (j - 1) hj1
          rw [HSk.out] at ts
          have hle := rless_any r x y kk S[j - 1].row S[j - 1].x S[j - 1].y S[j - 1].kind
          generalize hsj : S[j - 1] = sj at tu hle
          obtain ⟨pr, px, py, pk⟩ := sj
          have HSj : Hid (S[j - 1] = ⟨pr, px, py, pk⟩) := hsj
          simp only at tu hle ts
          clear hsj hCs0
          have d0 := fun p => (ts p).c0
          have d1 := fun p => (ts p).c1
          have d2 := fun p => (ts p).c2
          have d3 := fun p => (ts p).c3
          have e0 := fun p => (tu p).c0
          have e1 := fun p => (tu p).c1
          have e2 := fun p => (tu p).c2
          have e3 := fun p => (tu p).c3
          clear ts tu
          cases hL : ltS ⟨r, x, y, kk⟩ ⟨pr, px, py, pk⟩ with
          | true =>
            rw [hL] at hle
            have HL : Hid (ltS ⟨r, x, y, kk⟩ S[j - 1] = true) := by
              show ltS ⟨r, x, y, kk⟩ S[j - 1] = true
              rw [HSj.out]; exact hL
            clear hL
            go_wp2_with fail
            refine wp_region_quiet_below mixed (by kernel_rfl) ?_
            repeat (go_big_quiet_step ((go_at_call 23; exact Calls.below_of (hle _))))
            refine wpQuiet_nil ?_
            intro _ hw'
            obtain ⟨p, hw''⟩ := hw'
            subst hw''
            have st3 := st2.next p.h
            clear st2
            go_wp2_with fail
            refine ⟨⟨j - 1, by omega, by first | rfl | go_num, st3, ?_⟩, by simp [intOf]; omega⟩
            show ∀ q, j - 1 ≤ q → (hq : q < S.length) → ltS ⟨r, x, y, kk⟩ S[q] = true
            intro q h hq
            rcases Nat.lt_or_ge q j with h' | h'
            · have e : q = j - 1 := by omega
              subst e; exact HL.out
            · exact HJ.out q h' hq
          | false =>
            rw [hL] at hle
            have HLs : Hid (ltS ⟨r, x, y, kk⟩ S[j - 1] = false) := by
              show ltS ⟨r, x, y, kk⟩ S[j - 1] = false
              rw [HSj.out]; exact hL
            clear hL
            go_wp2_with fail
            refine wp_region_quiet_below mixed (by kernel_rfl) ?_
            repeat (go_big_quiet_step ((go_at_call 23; exact Calls.below_of (hle _))))
            refine wpQuiet_nil ?_
            intro _ hw'
            obtain ⟨p, hw''⟩ := hw'
            subst hw''
            have st3 := st2.next p.h
            clear st2 d0 d1 d2 d3 e0 e1 e2 e3 v0 u0
            have hTs := (hCv.out.next st3.below).seat k hlt
            have hTs' : SeatAt p.w vb (vo + k * 4) r x y kk := by rw [HSk.out] at hTs; exact hTs
            clear hTs
            go_wp2_with fail
            obtain ⟨A, hA⟩ : ∃ A : Addr, (if cs = j then some (⟨b, off, none⟩ : Addr) else some ⟨b, off + j * 4, none⟩) = some A := by
              by_cases h : cs = j
              · exact ⟨_, if_pos h⟩
              · exact ⟨_, if_neg h⟩
            obtain ⟨_, _, e, hlc, hcm, hCs⟩ := st3.so.pos hS0
            cases e
            refine region12_8s _ ?_ S b off cs j hj hlc (by omega) (by unfold maxLen at hcm; omega) A hA k V.seats.length vb vo c1 hlt r x y kk _ _ _ _ _ _ _ _ w.heap.size (w.heap.size + 1 + 1) p.w st3.b1 hTs' st3.u hCs _ _ _ _ _ _ _ _ _ _ _ _ _ _ _ _ _ _ _ _ _ _ _ _ _ _ _ _ _ _ _ _ _ _ _ _ _ _ _ _ _ _ _ _ _ _ _ _ _ _ _ _ _ _ _ _ _ _ _ _ _ _ _ _ _ _ _ _ _ _ _ _ _ _ _ _ _ _ _ _ _ _ _ _ _ _ _ _ _ _ _ _ _ _ _ _ _ _ _ _ _ _ _ _ _ _ _ _ _ _ _ _ _ _ _ _ _ _ _ _ _ _ _ _ _ _ _ _ _ _ _ _ ?_
            · intro c a a' w h; exact absurd h.2 (fun h => rnres_panic h)
            intro W' e0 a5 c5 g7 a8 c8 a13 c13 hb hown
            have hil := ins_len S (⟨r, x, y, kk⟩ : Seat) j
            rw [ins_flat, ← hil] at hown
            have st4 := st3.seat hb (row_slN seatC_len hown (by rw [hil]; omega) st3.u.lt)
            rw [hil] at st4
            have HIns : Hid ((∀ a ∈ S.take j, ltS (⟨r, x, y, kk⟩ : Seat) a = false) ∧ (∀ b ∈ S.drop j, ltS b (⟨r, x, y, kk⟩ : Seat) = false)) := ins_sorted (⟨r, x, y, kk⟩ : Seat) j hj HSo.out (fun _ h => by have := HLs.out; exact this) HJ.out
            have HIL : Hid ((S.take j ++ [(⟨r, x, y, kk⟩ : Seat)] ++ S.drop j).length = S.length + 1) := hil
            clear hown hb hil
            go_wp2_with fail
            refine ⟨⟨k + 1, a13, c13, S.take j ++ [(⟨r, x, y, kk⟩ : Seat)] ++ S.drop j, by omega, by go_num, st4, ?_, ins_pairwise (⟨r, x, y, kk⟩ : Seat) j HSo.out HIns.out.1 HIns.out.2⟩, by simp [intOf]; omega⟩
            show (S.take j ++ [(⟨r, x, y, kk⟩ : Seat)] ++ S.drop j).Perm (V.seats.take (k + 1))
            rw [List.take_succ_eq_append_getElem hlt, HSk.out]
            exact (ins_perm S (⟨r, x, y, kk⟩ : Seat) j).trans ((List.Perm.cons _ HP.out).trans (List.perm_append_singleton _ _).symm)
    · have hltz : ¬ (k : Int) < (V.seats.length : Int) := by omega
      have HPF : Hid (S.Perm V.seats) := by
        have := HP.out
        rw [List.take_of_length_le (by omega)] at this
        exact this
      clear HP
      go_wp2_with fail
      go_loopw [7, 8, 9] (fun i _ _ wr => ∃ (k : Nat) (ak : Option Addr) (m ck : Nat) (K : List Int), k ≤ V.kills.length ∧ i = .int .i64 k ∧ RSt w V w.heap.size (w.heap.size + 1) (w.heap.size + 1 + 1) #[.slice a1 V.seats.length c1, .int .i64 V.gap, .int .i64 V.radius, .slice a2 V.kills.length c2, .slice a3 n3 c3] az cs ak m ck a3 n3 c3 S K wr ∧ Hid (K.Pairwise (fun a b : Int => a < b)) ∧ K.length ≤ k ∧ Hid (∀ x : Int, x ∈ K ↔ ∃ q ∈ V.kills.take k, ∃ a : Nat, AtOf S V.seats[q.toNat]! a ∧ x = (a : Int)) ∧ Hid ((V.kills.take k).all (fun q => isSeatB q V.seats.length) = true)) (fun i _ _ _ => V.kills.length - (intOf i).toNat)
      case atStart => exact ⟨0, none, 0, 0, [], Nat.zero_le _, rfl, st, List.Pairwise.nil, Nat.zero_le _, (by intro x; simp), rfl⟩
      case round =>
        clear st v0 u0 v3 vl ul hltz hk hlt HSL
        obtain ⟨k, ak, m, ck, K, hk, rfl, st, HKr, hKl, HKm, HKa⟩ := hrel
        have hne : Nonempty (BelowOf wr) := ⟨⟨wr, Below.refl _ wr⟩⟩
        have vl := st.b1.lt
        have ul := st.u.lt
        by_cases hlt : k < V.kills.length
        · have hltz : (k : Int) < (V.kills.length : Int) := by omega
          obtain ⟨kb, ko, rfl, hCk0⟩ := cells_of_pos HV.out.k hlt
          have hCk : Hid (Cells 1 intC w kb ko V.kills) := hCk0
          clear hCk0
          have v0 := fun p : BelowOf wr => (st.next p.h).b1.cell 0 _ rfl
          have v3 := fun p : BelowOf wr => (st.next p.h).b1.cell 3 _ rfl
          have w3 := st.b1.cell 3 _ rfl
          have kc := fun p : BelowOf wr => (hCk.out.next (st.next p.h).below).int k hlt
          have htk : V.kills.take (k + 1) = V.kills.take k ++ [V.kills[k]] := List.take_succ_eq_append_getElem hlt
          have hmem : V.kills[k] ∈ V.kills := List.getElem_mem hlt
          generalize V.kills[k] = y at kc htk hmem
          have HT : Hid (V.kills.take (k + 1) = V.kills.take k ++ [y]) := htk
          have HM : Hid (y ∈ V.kills) := hmem
          have hwn : IntKind.i64.wrap ((V.seats.length : Int) - 1) = (V.seats.length : Int) - 1 := by rw [IntKind.wrap_i64]; omega
          have g1 := in_any y 0 ((V.seats.length : Int) - 1)
          rw [isSeat_in] at g1
          clear htk hmem
          cases hq : isSeatB y V.seats.length with
          | false =>
            rw [hq] at g1
            have HQ : Hid (V.kills.all (fun q => isSeatB q V.seats.length) = false) := by
              show V.kills.all (fun q => isSeatB q V.seats.length) = false
              cases ha : V.kills.all (fun q => isSeatB q V.seats.length) with
              | false => rfl
              | true => rw [List.all_eq_true.1 ha y HM.out] at hq; cases hq
            clear hq
            go_wp2_with fail
            refine wp_region_quiet_below mixed (by kernel_rfl) ?_
            repeat (go_big_quiet_step ((go_at_call 24; exact Calls.below_of (same_world (g1 _)))))
            refine wpQuiet_nil ?_
            intro _ hw'
            obtain ⟨p, hw''⟩ := hw'
            subst hw''
            have st3 := st.next p.h
            clear st v0 v3 w3 kc
            have y0 := st3.b2.cell 0 _ rfl
            have f0 := st3.b2.frozen 0
            have y1 := st3.b2.cell 1 _ rfl
            have f1 := st3.b2.frozen 1
            have y2 := st3.b2.cell 2 _ rfl
            have f2 := st3.b2.frozen 2
            have y3 := st3.b2.cell 3 _ rfl
            have f3 := st3.b2.frozen 3
            have y4 := st3.b2.cell 4 _ rfl
            have f4 := st3.b2.frozen 4
            have yl := st3.b2.lt
            have B7 := st3.below
            clear st3
            go_wp2_with fail
            refine bodyPost_ret (v := .tuple #[venZ, .bool false]) (by simp [results, Try.results12, go_sem, y0, y1, y2, y3, y4]) rfl ⟨none, .inl ⟨HQ.out, rfl⟩, rfl, ?_⟩
            exact Below.setCell (Below.setCell (Below.setCell (Below.setCell (Below.setCell B7 (by simp) _) (by simp) _) (by simp) _) (by simp) _) (by simp) _
          | true =>
            rw [hq] at g1
            have HQ : Hid (isSeatB y V.seats.length = true) := hq
            obtain ⟨mm, hm0, hm⟩ : ∃ mm : Nat, y = (mm : Int) ∧ mm < V.seats.length := by
              unfold isSeatB at hq; simp at hq
              exact ⟨y.toNat, by omega, by omega⟩
            clear hq
            subst hm0
            obtain ⟨vb, vo, rfl, hCv0⟩ := cells_of_pos HV.out.s hm
            have hCv : Hid (Cells 4 seatC w vb vo V.seats) := hCv0
            clear hCv0
            go_wp2_with fail
            refine wp_region_quiet_below mixed (by kernel_rfl) ?_
            repeat (go_big_quiet_step ((go_at_call 24; exact Calls.below_of (same_world (g1 _)))))
            refine wpQuiet_nil ?_
            intro _ hw'
            obtain ⟨p, hw''⟩ := hw'
            subst hw''
            have st3 := st.next p.h
            have kc3 := kc p
            clear st v0 v3 w3 kc g1 vl ul
            have hTs := (hCv.out.next st3.below).seat mm hm
            generalize hsk : V.seats[mm] = sk at hTs
            obtain ⟨r, x, y, kk⟩ := sk
            simp only at hTs
            have HSk : Hid (V.seats[((mm : Int)).toNat]! = ⟨r, x, y, kk⟩) := by
              show V.seats[((mm : Int)).toNat]! = ⟨r, x, y, kk⟩
              rw [Int.toNat_natCast, getElem!_pos V.seats mm hm]; exact hsk
            have HMem : Hid ((⟨r, x, y, kk⟩ : Seat) ∈ S) := by
              show (⟨r, x, y, kk⟩ : Seat) ∈ S
              rw [← hsk]; exact HPF.out.mem_iff.2 (List.getElem_mem hm)
            clear hsk
            go_wp2_with fail
            refine region12_14 _ ?_ k V.kills.length kb ko c2 V.seats.length vb vo c1 mm hlt hm r x y kk _ _ _ w.heap.size p.w st3.b1 (Nat.lt_of_lt_of_le hCk.out.1 st3.below.size) kc3 hTs _ _ _ _ _ _ _ _ _ _ _ _ _ _ _ _ _ _ _ _ _ _ _ _ _ _ _ _ _ _ _ _ _ _ _ _ _ _ _ _ _ _ _ _ _ _ _ _ _ _ _ _ _ _ _ _ _ _ _ _ _ _ _ _ _ _ _ _ _ _ _ _ _ _ _ _ _ _ _ _ _ _ _ _ _ _ _ _ _ _ _ _ _ _ _ _ _ _ _ _ _ _ _ _ _ _ _ _ _ _ _ _ _ _ _ _ _ _ _ _ _ _ _ _ _ _ _ _ _ _ _ _ _ _ ?_
            · intro c a a' w h; exact absurd h.2 (fun h => rnres_panic h)
            intro W' g8 hb hsb
            have st4 := st3.next hb
            clear st3 hb hTs kc3
            have hS0 : 0 < S.length := List.length_pos_of_mem HMem.out
            obtain ⟨b, off, rfl, _⟩ := st4.so.pos hS0
            go_wp2_with fail
            go_loopw [9] (fun x' wy => ∃ a : Nat, a < S.length ∧ x' = .int .i64 a ∧ RSt w V w.heap.size (w.heap.size + 1) (w.heap.size + 1 + 1) #[.slice (some ⟨vb, vo, none⟩) V.seats.length c1, .int .i64 V.gap, .int .i64 V.radius, .slice (some ⟨kb, ko, none⟩) V.kills.length c2, .slice a3 n3 c3] (some ⟨b, off, none⟩) cs ak m ck a3 n3 c3 S K wy ∧ SeatAt wy g8 0 r x y kk ∧ Hid (∀ q (hq : q < S.length), q < a → keyNe S[q] ⟨r, x, y, kk⟩)) (fun x' _ => S.length - (intOf x').toNat)
            case atStart => exact ⟨0, hS0, rfl, st4, hsb, by intro q hq h; omega⟩
            case round =>
              clear st4 hsb hne
              obtain ⟨a, ha, rfl, st5, hsb, HB⟩ := hrel
              have hne : Nonempty (BelowOf wr) := ⟨⟨wr, Below.refl _ wr⟩⟩
              have haz : (a : Int) < (S.length : Int) := by omega
              have hwa : IntKind.i64.wrap ((a : Int) + 1) = (a : Int) + 1 := by rw [IntKind.wrap_i64]; omega
              obtain ⟨_, _, e, _, _, hCs0⟩ := st5.so.pos hS0
              cases e
              have u0 := fun p : BelowOf wr => (st5.next p.h).u.cell 0 _ rfl
              have tu := fun p : BelowOf wr => (hCs0.next p.h).seat a ha
              have ts := fun p : BelowOf wr => hsb.next p.h
              generalize hsa : S[a] = sa at tu
              obtain ⟨pr, px, py, pk⟩ := sa
              have HSa : Hid (S[a] = ⟨pr, px, py, pk⟩) := hsa
              simp only at tu
              clear hsa hCs0
              have d0 := fun p => (ts p).c0
              have d1 := fun p => (ts p).c1
              have e0 := fun p => (tu p).c0
              have e1 := fun p => (tu p).c1
              simp only [Nat.zero_add] at d1
              clear ts tu
              by_cases hend : a + 1 < S.length
              · have hendz : decide ((a : Int) + 1 < (S.length : Int)) = true := by simp; omega
                have hendy : (a : Int) + 1 < (S.length : Int) := by omega
                by_cases hr : pr = r
                · have nr : (pr != r) = false := by simp [hr]
                  by_cases hx : px = x
                  · have nx : (px != x) = false := by simp [hx]
                    have HSt : Hid (a + 1 = S.length ∨ ¬ keyNe S[a] ⟨r, x, y, kk⟩) := by
                      refine Or.inr fun h => h ?_
                      rw [HSa.out]; exact ⟨hr, hx⟩
                    clear hr hx
                    go_wp2_with fail
                    refine wp_region_quiet_below mixed (by kernel_rfl) ?_
                    repeat (go_big_quiet_step (fail))
                    refine wpQuiet_nil ?_
                    intro _ hw'
                    obtain ⟨p, hw''⟩ := hw'
                    subst hw''
                    have st6 := st5.next p.h
                    have u3 := st6.u.cell 3 _ rfl
                    have ul := st6.u.lt
                    clear st5 u0 d0 d1 e0 e1 hsb
                    have hput := put_any K HKr.out (by omega) (a : Int) (.slice ak m ck) (w.heap.size + 1 + 1) p.w ul st6.ko
                    go_wp2_with fail
                    refine hput.mono ?_
                    rintro e w7 ⟨v7, l7, rfl, hs7, hr7, hm7, hl7, hb7⟩
                    clear hput
                    obtain ⟨ak7, ck7, rfl⟩ := hs7.slice
                    have st7 := st6.next hb7
                    have z3 := st7.u.cell 3 _ rfl
                    have zf := st7.u.frozen 3
                    have zl := st7.u.lt
                    have st8 := st7.kill (Below.refl _ _) hs7
                    have HR7 : Hid (l7.Pairwise (fun a b : Int => a < b)) := hr7
                    have HM7 : Hid (∀ x, x ∈ l7 ↔ x ∈ K ∨ x = (a : Int)) := hm7
                    have hAt : AtOf S ⟨r, x, y, kk⟩ a := ⟨ha, HSt.out, HB.out⟩
                    have HAt : Hid (AtOf S ⟨r, x, y, kk⟩ a) := hAt
                    clear st6 st7 hb7 hs7 hr7 hm7 hAt u3 ul
                    go_wp2_with fail
                    refine ⟨⟨k + 1, ak7, l7.length, ck7, l7, by omega, by go_num, st8, HR7.out, by omega, ?_, ?_⟩, by simp [intOf]; omega⟩
                    · show ∀ x : Int, x ∈ l7 ↔ ∃ q ∈ V.kills.take (k + 1), ∃ a : Nat, AtOf S V.seats[q.toNat]! a ∧ x = (a : Int)
                      intro z
                      rw [HM7.out z, HKm.out z, HT.out]
                      constructor
                      · rintro (⟨q, hq, h⟩ | rfl)
                        · exact ⟨q, List.mem_append_left _ hq, h⟩
                        · exact ⟨(mm : Int), List.mem_append_right _ (List.mem_singleton.2 rfl), a, by rw [HSk.out]; exact HAt.out, rfl⟩
                      · rintro ⟨q, hq, a', ha', rfl⟩
                        rcases List.mem_append.1 hq with hq | hq
                        · exact .inl ⟨q, hq, a', ha', rfl⟩
                        · rw [List.mem_singleton.1 hq, HSk.out] at ha'
                          rw [ha'.unique HAt.out]; exact .inr rfl
                    · show (V.kills.take (k + 1)).all (fun q => isSeatB q V.seats.length) = true
                      rw [HT.out, List.all_append, HKa.out]; simp [HQ.out]
                  · have nx : (px != x) = true := by simp [hx]
                    have HNe : Hid (keyNe S[a] ⟨r, x, y, kk⟩) := by
                      show keyNe S[a] ⟨r, x, y, kk⟩
                      rw [HSa.out]; exact fun h => hx h.2
                    clear hr hx
                    go_wp2_with fail
                    refine wp_region_quiet_below mixed (by kernel_rfl) ?_
                    repeat (go_big_quiet_step (fail))
                    refine wpQuiet_nil ?_
                    intro _ hw'
                    obtain ⟨p, hw''⟩ := hw'
                    subst hw''
                    have st6 := st5.next p.h
                    have hsb6 := hsb.next p.h
                    clear st5 u0 d0 d1 e0 e1 hsb
                    go_wp2_with fail
                    refine ⟨⟨a + 1, hend, by go_num, st6, hsb6, ?_⟩, by simp [intOf]; omega⟩
                    show ∀ q (hq : q < S.length), q < a + 1 → keyNe S[q] ⟨r, x, y, kk⟩
                    intro q hq h
                    rcases Nat.lt_or_ge q a with h' | h'
                    · exact HB.out q hq h'
                    · have e : q = a := by omega
                      subst e; exact HNe.out
                · have nr : (pr != r) = true := by simp [hr]
                  have HNe : Hid (keyNe S[a] ⟨r, x, y, kk⟩) := by
                    show keyNe S[a] ⟨r, x, y, kk⟩
                    rw [HSa.out]; exact fun h => hr h.1
                  clear hr
                  go_wp2_with fail
                  refine wp_region_quiet_below mixed (by kernel_rfl) ?_
                  repeat (go_big_quiet_step (fail))
                  refine wpQuiet_nil ?_
                  intro _ hw'
                  obtain ⟨p, hw''⟩ := hw'
                  subst hw''
                  have st6 := st5.next p.h
                  have hsb6 := hsb.next p.h
                  clear st5 u0 d0 d1 e0 e1 hsb
                  go_wp2_with fail
                  refine ⟨⟨a + 1, hend, by go_num, st6, hsb6, ?_⟩, by simp [intOf]; omega⟩
                  show ∀ q (hq : q < S.length), q < a + 1 → keyNe S[q] ⟨r, x, y, kk⟩
                  intro q hq h
                  rcases Nat.lt_or_ge q a with h' | h'
                  · exact HB.out q hq h'
                  · have e : q = a := by omega
                    subst e; exact HNe.out
              · have hendz : decide ((a : Int) + 1 < (S.length : Int)) = false := by simp; omega
                have hendy : ¬ (a : Int) + 1 < (S.length : Int) := by omega
                have HSt : Hid (a + 1 = S.length ∨ ¬ keyNe S[a] ⟨r, x, y, kk⟩) := Or.inl (by omega)
                go_wp2_with fail
                refine wp_region_quiet_below mixed (by kernel_rfl) ?_
                repeat (go_big_quiet_step (fail))
                refine wpQuiet_nil ?_
                intro _ hw'
                obtain ⟨p, hw''⟩ := hw'
                subst hw''
                have st6 := st5.next p.h
                have u3 := st6.u.cell 3 _ rfl
                have ul := st6.u.lt
                clear st5 u0 d0 d1 e0 e1 hsb
                have hput := put_any K HKr.out (by omega) (a : Int) (.slice ak m ck) (w.heap.size + 1 + 1) p.w ul st6.ko
                go_wp2_with fail
                refine hput.mono ?_
                rintro e w7 ⟨v7, l7, rfl, hs7, hr7, hm7, hl7, hb7⟩
                clear hput
                obtain ⟨ak7, ck7, rfl⟩ := hs7.slice
                have st7 := st6.next hb7
                have z3 := st7.u.cell 3 _ rfl
                have zf := st7.u.frozen 3
                have zl := st7.u.lt
                have st8 := st7.kill (Below.refl _ _) hs7
                have HR7 : Hid (l7.Pairwise (fun a b : Int => a < b)) := hr7
                have HM7 : Hid (∀ x, x ∈ l7 ↔ x ∈ K ∨ x = (a : Int)) := hm7
                have hAt : AtOf S ⟨r, x, y, kk⟩ a := ⟨ha, HSt.out, HB.out⟩
                have HAt : Hid (AtOf S ⟨r, x, y, kk⟩ a) := hAt
                clear st6 st7 hb7 hs7 hr7 hm7 hAt u3 ul
                go_wp2_with fail
                refine ⟨⟨k + 1, ak7, l7.length, ck7, l7, by omega, by go_num, st8, HR7.out, by omega, ?_, ?_⟩, by simp [intOf]; omega⟩
                · show ∀ x : Int, x ∈ l7 ↔ ∃ q ∈ V.kills.take (k + 1), ∃ a : Nat, AtOf S V.seats[q.toNat]! a ∧ x = (a : Int)
                  intro z
                  rw [HM7.out z, HKm.out z, HT.out]
                  constructor
                  · rintro (⟨q, hq, h⟩ | rfl)
                    · exact ⟨q, List.mem_append_left _ hq, h⟩
                    · exact ⟨(mm : Int), List.mem_append_right _ (List.mem_singleton.2 rfl), a, by rw [HSk.out]; exact HAt.out, rfl⟩
                  · rintro ⟨q, hq, a', ha', rfl⟩
                    rcases List.mem_append.1 hq with hq | hq
                    · exact .inl ⟨q, hq, a', ha', rfl⟩
                    · rw [List.mem_singleton.1 hq, HSk.out] at ha'
                      rw [ha'.unique HAt.out]; exact .inr rfl
                · show (V.kills.take (k + 1)).all (fun q => isSeatB q V.seats.length) = true
                  rw [HT.out, List.all_append, HKa.out]; simp [HQ.out]
        · have hltz : ¬ (k : Int) < (V.kills.length : Int) := by omega
          have htk : V.kills.take k = V.kills := List.take_of_length_le (by omega)
          have HKm' : Hid (∀ x : Int, x ∈ K ↔ ∃ q ∈ V.kills, ∃ a : Nat, AtOf S V.seats[q.toNat]! a ∧ x = (a : Int)) := by
            have := HKm.out
            rw [htk] at this
            exact this
          have HKa' : Hid (V.kills.all (fun q => isSeatB q V.seats.length) = true) := by
            have := HKa.out
            rw [htk] at this
            exact this
          clear htk HKm HKa
          have v3 := st.b1.cell 3 _ rfl
          have u0 := st.u.cell 0 _ rfl
          have u1 := st.u.cell 1 _ rfl
          have u2 := st.u.cell 2 _ rfl
          have u3 := st.u.cell 3 _ rfl
          have u4 := st.u.cell 4 _ rfl
          have hven : VenAt wr az S.length cs ak m ck a3 n3 c3 ⟨S, V.gap, V.radius, K, V.poles⟩ := ⟨st.so.sl, st.ko.sl, (HV.out.next st.below).p⟩
          have hmay := rmay_any az ak a3 S.length cs m ck n3 c3 ⟨S, V.gap, V.radius, K, V.poles⟩ wr hven
          simp only at hmay
          have HRN : Hid (∀ r, r = (if mayB ⟨S, V.gap, V.radius, K, V.poles⟩ then some ⟨S, V.gap, V.radius, K, V.poles⟩ else none) → RNormTo V r) := fun r hr => .inr ⟨HKa'.out, S, K, HPF.out, HSo.out, HKr.out, HKm'.out, hr⟩
          generalize hmb : mayB ⟨S, V.gap, V.radius, K, V.poles⟩ = mb at hmay HRN
          clear hven hmb
          go_wp2_with fail
          refine hmay.mono ?_
          rintro e w7 ⟨rfl, hb⟩
          have st7 := st.next hb
          clear hmay st hb v3 u0 u1 u2 u3 u4 vl ul
          have t0 := st7.u.cell 0 _ rfl
          have t1 := st7.u.cell 1 _ rfl
          have t2 := st7.u.cell 2 _ rfl
          have t3 := st7.u.cell 3 _ rfl
          have t4 := st7.u.cell 4 _ rfl
          have tl := st7.u.lt
          have y0 := st7.b2.cell 0 _ rfl
          have f0 := st7.b2.frozen 0
          have y1 := st7.b2.cell 1 _ rfl
          have f1 := st7.b2.frozen 1
          have y2 := st7.b2.cell 2 _ rfl
          have f2 := st7.b2.frozen 2
          have y3 := st7.b2.cell 3 _ rfl
          have f3 := st7.b2.frozen 3
          have y4 := st7.b2.cell 4 _ rfl
          have f4 := st7.b2.frozen 4
          have yl := st7.b2.lt
          have B7 := st7.below
          cases mb with
          | false =>
            have HR := HRN.out none rfl
            have HR' : Hid (RNormTo V none) := HR
            clear HR HRN st7
            go_wp2_with fail
            refine bodyPost_ret (v := .tuple #[venZ, .bool false]) (by simp [results, Try.results12, go_sem, y0, y1, y2, y3, y4]) rfl ⟨none, HR'.out, rfl, ?_⟩
            exact Below.setCell (Below.setCell (Below.setCell (Below.setCell (Below.setCell B7 (by simp) _) (by simp) _) (by simp) _) (by simp) _) (by simp) _
          | true =>
            have HR := HRN.out (some ⟨S, V.gap, V.radius, K, V.poles⟩) rfl
            have HR' : Hid (RNormTo V (some ⟨S, V.gap, V.radius, K, V.poles⟩)) := HR
            have B8 := Below.setCell (Below.setCell (Below.setCell (Below.setCell (Below.setCell B7 (by simp : w.heap.size ≤ (⟨w.heap.size + 1, 0, none⟩ : Addr).block) (.slice az S.length cs)) (by simp : w.heap.size ≤ (⟨w.heap.size + 1, 1, none⟩ : Addr).block) (.int .i64 V.gap)) (by simp : w.heap.size ≤ (⟨w.heap.size + 1, 2, none⟩ : Addr).block) (.int .i64 V.radius)) (by simp : w.heap.size ≤ (⟨w.heap.size + 1, 3, none⟩ : Addr).block) (.slice ak m ck)) (by simp : w.heap.size ≤ (⟨w.heap.size + 1, 4, none⟩ : Addr).block) (.slice a3 n3 c3)
            have ST7 : Hid (RSt w V w.heap.size (w.heap.size + 1) (w.heap.size + 1 + 1) #[.slice a1 V.seats.length c1, .int .i64 V.gap, .int .i64 V.radius, .slice a2 V.kills.length c2, .slice a3 n3 c3] az cs ak m ck a3 n3 c3 S K w7) := st7
            clear HR HRN st7
            go_wp2_with fail
            refine bodyPost_ret (v := .tuple #[venV az S.length cs V.gap V.radius ak m ck a3 n3 c3, .bool true]) (by simp [results, Try.results12, go_sem, y0, y1, y2, y3, y4]) rfl ⟨some ⟨S, V.gap, V.radius, K, V.poles⟩, HR'.out, ⟨az, S.length, cs, ak, m, ck, a3, n3, c3, rfl, ?_⟩, B8⟩
            exact ⟨(ST7.out.so.set5 _ (by omega) _ _ _ _ _).sl, (ST7.out.ko.set5 _ (by omega) _ _ _ _ _).sl, HV.out.p.next B8⟩
theorem rnorm_any (a1 a2 a3 : Option Addr) (n1 c1 n2 c2 n3 c3 : Nat) (V : Ven) (w : World) (h : VenAt w a1 n1 c1 a2 n2 c2 a3 n3 c3 V) (h1 : V.seats.length ≤ 4096) (h2 : V.kills.length ≤ 4096) :
    Calls Try.prog 12 #[venV a1 n1 c1 V.gap V.radius a2 n2 c2 a3 n3 c3] w fun e w' => ∃ r, RNormTo V r ∧ NormRes e w' r ∧ Below w.heap.size w w' := by
  have e1 := h.s.len
  have e2 := h.k.len
  subst e1; subst e2
  exact rnorm_walk a1 a2 a3 c1 c2 n3 c3 V w h h1 h2
end Go.Proofs.Ytoaapngfbidllaa
