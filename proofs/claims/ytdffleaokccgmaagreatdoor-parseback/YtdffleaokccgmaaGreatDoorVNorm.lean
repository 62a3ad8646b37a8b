/- venue.Norm by its contract. -/
import Derived.Test.YtdffleaokccgmaaGreatDoorVNormP
namespace Go.Proofs.YtdffleaokccgmaaGreatDoor.Ven
set_option linter.unusedVariables false
set_option maxRecDepth 100000
open Go.RowKit Go.Shelf

/-- A venue whose three rows are rows of their own, each of its type. -/
structure VenOwn (w : World) (a1 : Option Addr) (n1 c1 : Nat) (a2 : Option Addr) (n2 c2 : Nat) (a3 : Option Addr) (n3 c3 : Nat) (V : Ven) : Prop where
  s : w.ownsRow 0 54 4 (.slice a1 n1 c1) V.seats.length (V.seats.flatMap seatC)
  k : w.ownsRow 0 3 1 (.slice a2 n2 c2) V.kills.length (V.kills.flatMap intC)
  p : w.ownsRow 0 82 3 (.slice a3 n3 c3) V.poles.length (V.poles.flatMap poleC)
theorem VenOwn.at {w : World} {a1 : Option Addr} {n1 c1 : Nat} {a2 : Option Addr} {n2 c2 : Nat} {a3 : Option Addr} {n3 c3 : Nat} {V : Ven} (h : VenOwn w a1 n1 c1 a2 n2 c2 a3 n3 c3 V) : VenAt w a1 n1 c1 a2 n2 c2 a3 n3 c3 V :=
  ⟨row_sl seatC_len h.s, row_sl intC_len h.k, row_sl poleC_len h.p⟩
theorem VenOwn.next {w w' : World} {a1 : Option Addr} {n1 c1 : Nat} {a2 : Option Addr} {n2 c2 : Nat} {a3 : Option Addr} {n3 c3 : Nat} {V : Ven} (h : VenOwn w a1 n1 c1 a2 n2 c2 a3 n3 c3 V) (hb : Below w.heap.size w w') : VenOwn w' a1 n1 c1 a2 n2 c2 a3 n3 c3 V :=
  ⟨row_next h.s hb, row_next h.k hb, row_next h.p hb⟩
/-- A cell of a box of another type is set. -/
theorem VenOwn.set {w : World} {a1 : Option Addr} {n1 c1 : Nat} {a2 : Option Addr} {n2 c2 : Nat} {a3 : Option Addr} {n3 c3 : Nat} {V : Ven} (h : VenOwn w a1 n1 c1 a2 n2 c2 a3 n3 c3 V) {g : Nat} {e : TypeId} {cs : Array Value} (hB : Box w g e cs) (h1 : e ≠ 54) (h2 : e ≠ 3) (h3 : e ≠ 82) (i : Nat) (v : Value) : VenOwn (w.setCell ⟨g, i, none⟩ v) a1 n1 c1 a2 n2 c2 a3 n3 c3 V :=
  ⟨row_setCell h.s hB h1 i v, row_setCell h.k hB h2 i v, row_setCell h.p hB h3 i v⟩
theorem ven_rows {V : Ven} {ord : List Nat} {wr : World} {base ks kk cs m ck np cp : Nat} {az ak ap : Option Addr} (so : wr.ownsRow base 54 4 (.slice az ks cs) ks (((pick V.seats ord).take ks).flatMap seatC)) (ko : wr.ownsRow base 3 1 (.slice ak m ck) m ((posOf V.kills ord kk).flatMap intC)) (ml : m = (posOf V.kills ord kk).length) (po : wr.ownsRow 0 82 3 (.slice ap np cp) V.poles.length (V.poles.flatMap poleC))
    (hks : ks = V.seats.length) (hkk : kk = V.seats.length) (ho : IsOrder V.seats ord) : VenOwn wr az ks cs ak m ck ap np cp (normU V ord) := by
  have hl : (pick V.seats ord).length = V.seats.length := by unfold pick; rw [List.length_map, ho.length]
  refine ⟨?_, ?_, po⟩
  · have := so
    rw [List.take_of_length_le (by omega)] at this
    have h2 : wr.ownsRow base 54 4 (.slice az ks cs) (pick V.seats ord).length ((pick V.seats ord).flatMap seatC) := by rw [hl, ← hks]; exact this
    exact Go.Joins.ownsRow_le h2 (Nat.zero_le _)
  · have := ko
    rw [hkk] at this
    have hml := ml
    rw [hkk] at hml
    have h2 : wr.ownsRow base 3 1 (.slice ak m ck) (posOf V.kills ord V.seats.length).length ((posOf V.kills ord V.seats.length).flatMap intC) := by rw [← hml]; exact this
    exact Go.Joins.ownsRow_le h2 (Nat.zero_le _)
abbrev venZ : Value := venV none 0 0 0 0 none 0 0 none 0 0
set_option maxHeartbeats 1000000 in
theorem norm_many (a1 a2 a3 : Option Addr) (n1 c1 n2 c2 n3 c3 : Nat) (gap radius : Int) (h : 4096 < n1 ∨ 200 < n3) (w : World) :
    Calls Tryz.prog 62 #[venV a1 n1 c1 gap radius a2 n2 c2 a3 n3 c3] w fun e w' => e = .returned (.tuple #[venZ, .bool false]) ∧ Below w.heap.size w w' := by
  by_cases h1 : (4096 : Int) < (n1 : Int)
  · clear h
    go_enter Tryz.func62, Tryz.ntmps62
    go_wp2_with fail
    refine bodyPost_ret (v := .tuple #[venZ, .bool false]) (by simp [results, Tryz.results62, go_sem]) rfl ⟨rfl, ?_⟩
    exact ((Below.refl _ w).alloc (Nat.le_refl _) _).alloc (by simp) _
  · have h2 : (200 : Int) < (n3 : Int) := by omega
    clear h
    go_enter Tryz.func62, Tryz.ntmps62
    go_wp2_with fail
    refine bodyPost_ret (v := .tuple #[venZ, .bool false]) (by simp [results, Tryz.results62, go_sem]) rfl ⟨rfl, ?_⟩
    exact ((Below.refl _ w).alloc (Nat.le_refl _) _).alloc (by simp) _
set_option maxHeartbeats 1000000 in
theorem norm_bad (a1 a2 a3 : Option Addr) (n1 c1 n2 c2 n3 c3 : Nat) (V : Ven) (w : World) (h : VenAt w a1 n1 c1 a2 n2 c2 a3 n3 c3 V) (h1 : V.seats.length ≤ 4096) (h3 : V.poles.length ≤ 200) (hin : V.kills.all (fun k => isSeatB k V.seats.length) = false) :
    Calls Tryz.prog 62 #[venV a1 n1 c1 V.gap V.radius a2 n2 c2 a3 n3 c3] w fun e w' => e = .returned (.tuple #[venZ, .bool false]) ∧ Below w.heap.size w w' := by
  have e1 := h.s.len
  have e3 := h.p.len
  have hm := fun w' hb => marks_no V.kills _ V.seats.length h1 w' (h.next (w' := w') hb).k hin
  rw [← e1] at hm h1
  rw [← e3] at h3
  clear e1 e3 h hin
  have z1 : ¬ (4096 : Int) < (n1 : Int) := by omega
  have z3 : ¬ (200 : Int) < (n3 : Int) := by omega
  generalize V.gap = gap
  generalize V.radius = radius
  go_enter Tryz.func62, Tryz.ntmps62
  go_wp2_with fail
  refine (hm _ (((Below.refl _ w).alloc (Nat.le_refl _) _).alloc (by simp) _)).mono ?_
  rintro e w1 ⟨rfl, hb⟩
  have hB := Box.next (Box.fresh (w.alloc (.cells #[.slice a1 n1 c1, .int .i64 gap, .int .i64 radius, .slice a2 n2 c2, .slice a3 n3 c3] 33)) 33 Zero5) hb
  simp at hB
  have hB1 : Below w.heap.size w w1 := (((Below.refl _ w).alloc (Nat.le_refl _) _).alloc (by simp) _).trans (hb.mono (by simp; omega))
  have x0 := hB.cell 0 _ rfl
  have x1 := hB.cell 1 _ rfl
  have x2 := hB.cell 2 _ rfl
  have x3 := hB.cell 3 _ rfl
  have x4 := hB.cell 4 _ rfl
  have f0 := hB.frozen 0
  have f1 := hB.frozen 1
  have f2 := hB.frozen 2
  have f3 := hB.frozen 3
  have f4 := hB.frozen 4
  have hl := hB.lt
  clear hb
  go_wp2_with fail
  refine bodyPost_ret (v := .tuple #[venZ, .bool false]) (by simp [results, Tryz.results62, go_sem, x0, x1, x2, x3, x4]) rfl ⟨rfl, ?_⟩
  exact Below.setCell (Below.setCell (Below.setCell (Below.setCell (Below.setCell hB1 (by simp) _) (by simp) _) (by simp) _) (by simp) _) (by simp) _

set_option maxRecDepth 100000 in
set_option maxHeartbeats 4000000 in
theorem norm_main (a1 a2 a3 : Option Addr) (c1 n2 c2 n3 c3 : Nat) (V : Ven) (w : World) (h : VenAt w a1 V.seats.length c1 a2 n2 c2 a3 n3 c3 V) (h1 : V.seats.length ≤ 4096) (h3 : V.poles.length ≤ 200) (hin : V.kills.all (fun k => isSeatB k V.seats.length) = true) :
    Calls Tryz.prog 62 #[venV a1 V.seats.length c1 V.gap V.radius a2 n2 c2 a3 n3 c3] w fun e w' => ∃ ord, IsOrder V.seats ord ∧ Below w.heap.size w w' ∧
      ((mayB (normU V ord) = false ∧ e = .returned (.tuple #[venZ, .bool false])) ∨ (mayB (normU V ord) = true ∧ ∃ b1 m1 d1 b2 m2 d2 b3 m3 d3, e = .returned (.tuple #[venV b1 m1 d1 V.gap V.radius b2 m2 d2 b3 m3 d3, .bool true]) ∧ VenOwn w' b1 m1 d1 b2 m2 d2 b3 m3 d3 (normU V ord))) := by
  have e3 := h.p.len
  have hm := fun w' hb => marks_yes V.kills _ V.seats.length h1 w' (h.next (w' := w') hb).k hin
  have z1 : ¬ (4096 : Int) < (V.seats.length : Int) := by omega
  have z3 : ¬ (200 : Int) < (n3 : Int) := by omega
  have HV : Hid (VenAt w a1 V.seats.length c1 a2 n2 c2 a3 n3 c3 V) := h
  clear e3 h hin
  go_enter Tryz.func62, Tryz.ntmps62
  go_wp2_with fail
  refine (hm _ (((Below.refl _ w).alloc (Nat.le_refl _) _).alloc (by simp) _)).mono ?_
  rintro e w1 ⟨rfl, hkr, hb⟩
  have hB1 := Box.next (Box.next (Box.fresh w 33 #[.slice a1 V.seats.length c1, .int .i64 V.gap, .int .i64 V.radius, .slice a2 n2 c2, .slice a3 n3 c3]) ((Below.refl _ _).alloc (Nat.le_refl _) (.cells Zero5 33))) hb
  have hB2 := Box.next (Box.fresh (w.alloc (.cells #[.slice a1 V.seats.length c1, .int .i64 V.gap, .int .i64 V.radius, .slice a2 n2 c2, .slice a3 n3 c3] 33)) 33 Zero5) hb
  have hbw : Below w.heap.size w w1 := (((Below.refl _ w).alloc (Nat.le_refl _) _).alloc (by simp) _).trans (hb.mono (by simp; omega))
  simp at hB2 hkr
  clear hb hm
  go_wp2_with fail
  refine region11_6 _ ?_ a1 a2 a3 V.seats.length c1 n2 c2 n3 c3 V.gap V.radius V.poles h3 w.heap.size w1 hB1 (HV.out.next hbw).p _ _ _ _ _ _ _ _ _ _ _ _ _ _ _ _ _ _ _ _ _ _ _ _ _ _ _ _ _ _ _ _ _ _ _ _ _ _ _ _ _ _ _ _ _ _ _ _ _ _ _ _ _ _ _ _ _ _ _ _ _ _ _ _ _ _ _ _ _ _ _ _ _ _ ?_
  · intro c a a' w h; rcases h.2 with ⟨_, _, _, ⟨_, h4⟩ | ⟨_, _, _, _, _, _, _, _, _, _, h4, _⟩⟩ <;> cases h4
  intro w2 g ap np cp hg hb2 hx hpo
  have v0 := (hB1.next hb2).cell 0 _ rfl
  have hbw2 : Below w.heap.size w w2 := hbw.trans (hb2.mono hbw.size)
  have hlw := (hB1.next hb2).lt
  go_wp2_with fail
  refine (sorted_any V.seats a1 V.seats.length c1 h1 w2 (HV.out.next hbw2).s).mono ?_
  rintro e w3 ⟨og, ord, rfl, hog, ho, hor, hb3⟩
  have hbw3 : Below w.heap.size w w3 := hbw2.trans (hb3.mono hbw2.size)
  have hzw1 : w1.heap.size ≤ w2.heap.size := hb2.size
  have hl2 := hB2.lt
  have hkl := hkr.1
  have st : NSt w V ord w.heap.size (w.heap.size + 1) g og (w.heap.size + 1 + 1) w3.heap.size #[.slice a1 V.seats.length c1, .int .i64 V.gap, .int .i64 V.radius, .slice a2 n2 c2, .slice a3 n3 c3] none 0 none 0 0 ap np cp 0 0 w3 :=
    { below := hbw3, hbase := Nat.le_refl _, b1 := (hB1.next hb2).next hb3, b2 := (hB2.next hb2).next hb3, u := hx.next hb3, ge := by omega, gb1 := by omega, gb2 := by omega, gog := by have := hx.lt; omega, gkg := by omega,
      so := World.ownsRow_nil _ _ _ _, ko := World.ownsRow_nil _ _ _ _, ml := rfl, po := Go.Joins.ownsRow_le (row_next hpo hb3) (Nat.zero_le _), orr := hor, kr := (hkr.next hb2).next hb3, ogl := hor.1, kgl := Nat.lt_of_lt_of_le hkl (Nat.le_trans hzw1 hb3.size) }
  have HO : Hid (IsOrder V.seats ord) := ho
  have hwb : w.heap.size ≤ w3.heap.size := hbw3.size
  clear hx hpo hb2 hb3 hor hkr hB1 hB2 v0 hlw hbw hbw2 hbw3 hog hg hzw1 hl2 hkl ho
  go_wp2_with fail
  go_loopw [7, 8, 44] (fun _ _ i wr => ∃ (k : Nat) (az : Option Addr) (cs : Nat) (ak : Option Addr) (m ck : Nat), k ≤ V.seats.length ∧ i = .int .i64 k ∧ NSt w V ord w.heap.size (w.heap.size + 1) g og (w.heap.size + 1 + 1) w3.heap.size #[.slice a1 V.seats.length c1, .int .i64 V.gap, .int .i64 V.radius, .slice a2 n2 c2, .slice a3 n3 c3] az cs ak m ck ap np cp k k wr) (fun _ _ i _ => V.seats.length - (intOf i).toNat)
  case atStart => exact ⟨0, none, 0, none, 0, 0, Nat.zero_le _, rfl, st⟩
  case round =>
    clear st
    obtain ⟨k, az, cs, ak, m, ck, hk, rfl, st⟩ := hrel
    by_cases hlt : k < V.seats.length
    · have hltz : (k : Int) < (V.seats.length : Int) := by omega
      have hlt' : k < V.seats.length := hlt
      have q0 : wr.cell? ⟨og, k, none⟩ = some (.int .i64 ((ord[k]! : Nat) : Int)) := (st.orr.2 k hlt').1
      have hol := HO.out.lt k hlt'
      have hkl : k < ord.length := by rw [HO.out.length]; exact hlt'
      generalize hwas : ord[k]! = was at q0 hol
      have HW : Hid (ord[k]! = was) := hwas
      clear hwas
      have hC0 : ∃ b off, a1 = some ⟨b, off, none⟩ ∧ Cells 4 seatC w b off V.seats := by
        rcases HV.out.s with ⟨_, hn⟩ | ⟨b, off, cap, he, _, _, hC⟩
        · rw [hn] at hlt'; simp at hlt'
        · cases he; exact ⟨b, off, rfl, hC⟩
      obtain ⟨b, off, rfl, hC⟩ := hC0
      have hse := (hC.next st.below).seat was hol
      have hse2 : V.seats[was]! = V.seats[was] := getElem!_pos V.seats was hol
      generalize V.seats[was] = sx at hse hse2
      obtain ⟨r, x, y, kk⟩ := sx
      simp only at hse
      have HS : Hid (V.seats[ord[k]!]! = ⟨r, x, y, kk⟩) := by
        show V.seats[ord[k]!]! = ⟨r, x, y, kk⟩
        rw [HW.out]; exact hse2
      clear hse2 hC
      go_wp2_with fail
      have stn := st.next ((Below.refl _ wr).alloc (Nat.le_refl _) (.cells #[.int .i64 r, .int .i64 x, .int .i64 y, .int .i64 kk] 54)).drew
      refine region11_10 _ ?_ az k cs (((pick V.seats ord).take k).flatMap seatC) w3.heap.size _ _ _ _ V.seats c1 b off was hol (by omega) h1 r x y kk w.heap.size g wr st.hbase st.u st.b1.lt (st.b1.cell 0 _ rfl) hse st.so _ _ _ _ _ _ _ _ _ _ _ _ _ _ _ _ _ _ _ _ _ _ _ _ _ _ _ _ _ _ _ _ _ _ _ _ _ _ _ _ _ _ _ _ _ _ _ _ _ _ _ _ _ _ _ _ _ _ _ _ _ _ _ _ _ _ _ _ _ _ _ _  ?_
      · intro c a a' w h; rcases h.2 with ⟨_, _, _, ⟨_, h4⟩ | ⟨_, _, _, _, _, _, _, _, _, _, h4, _⟩⟩ <;> cases h4
      intro w4 az2 cs2 hown4 hgr4
      have st4 := stn.seat hkl ⟨r, x, y, kk⟩ HS.out hown4 hgr4 hwb
      have hu4 := st4.u
      have m4 : (w4.setCell ⟨g, 0, none⟩ (.slice az2 (k + 1) cs2)).cell? ⟨w.heap.size + 1 + 1, was, none⟩ = some (.bool (markB V.kills was)) := (st4.kr.2 was hol).1
      generalize hw5 : w4.setCell ⟨g, 0, none⟩ (.slice az2 (k + 1) cs2) = w5 at st4 hu4 m4
      clear st stn hown4 hgr4 hse hw5 q0
      have hkb := st4.kr.1
      have holz : (was : Int) < (V.seats.length : Int) := by omega
      cases hmark : markB V.kills was with
      | false =>
        rw [hmark] at m4
        have HM : Hid (markB V.kills ord[k]! = false) := by
          show markB V.kills ord[k]! = false
          rw [HW.out]; exact hmark
        clear hmark
        go_wp2_with fail
        go_roundw
        case rel => exact ⟨k + 1, az2, cs2, ak, m, ck, by omega, by go_num, st4.miss HM.out⟩
        case measure => simp [intOf]; omega
      | true =>
        rw [hmark] at m4
        have HM : Hid (markB V.kills ord[k]! = true) := by
          show markB V.kills ord[k]! = true
          rw [HW.out]; exact hmark
        clear hmark
        have u3 := hu4.cell 3 _ rfl
        have ul := hu4.lt
        have hml := posOf_len V.kills ord k
        rw [← st4.ml] at hml
        obtain ⟨i0, hi, hz0, hz1, hz2⟩ := info3
        have stn4 := st4.next ((Below.refl _ w5).alloc (Nat.le_refl _) (.cells #[.int .i64 (k : Int)] 3))
        go_wp2_with (at_builtin; refine wpList_append_own _ rfl _ _ 22 rfl w3.heap.size 3 i0 (.int .i64 0) 1 8 Tryz.underlying22 hi hz0 hz1 hz2 rfl (by omega) _ _ _ rfl stn4.ko ⟨w5.heap.size, 0, none⟩ 1 1 [.int .i64 (k : Int)] rfl ?qc1 ?qc2 ?qc3 ?qc4 ?qc5 ?qc6 ?_)
        case qc1 => rfl
        case qc2 =>
          intro j u hj
          rw [Addr.add_lit, Nat.zero_add, World.cell?_alloc_at _ _ _ _ rfl]
          show [Value.int .i64 (k : Int)].toArray[j]? = some u
          rw [List.getElem?_toArray]; exact hj
        case qc3 => intro u hu; simp at hu; subst hu; rfl
        case qc4 => unfold maxLen; omega
        case qc5 => omega
        case qc6 => exact stn4.hbase
        intro v6 w6 hown6 hgr6 _
        obtain ⟨ak2, ck2, rfl⟩ := row_slice hown6
        have hu6 := stn4.u.grown hgr6 (stn4.u.not_row (by decide) stn4.ko)
        have y3 := hu6.cell 3 _ rfl
        have yf := hu6.frozen 3
        have yl := hu6.lt
        have st6 := stn4.kill HM.out hown6 hgr6 hwb
        clear stn4 st4 hown6 hgr6 hu6 hu4
        go_wp2_with fail
        go_roundw
        case rel => exact ⟨k + 1, az2, cs2, ak2, m + 1, ck2, by omega, by go_num, st6⟩
        case measure => simp [intOf]; omega
    · have hltz : ¬ (k : Int) < (V.seats.length : Int) := by omega
      have hke : k = V.seats.length := by omega
      have hven := st.ven hke hke HO.out
      have u0 := st.u.cell 0 _ rfl
      have u1 := st.u.cell 1 _ rfl
      have u2 := st.u.cell 2 _ rfl
      have u3 := st.u.cell 3 _ rfl
      have u4 := st.u.cell 4 _ rfl
      have hmay := may_any az ak ap k cs m ck np cp (normU V ord) wr hven
      have hmay' : Calls Tryz.prog 88 #[venV az k cs V.gap V.radius ak m ck ap np cp] wr fun e w' => e = .returned (.bool (mayB (normU V ord))) ∧ Below wr.heap.size wr w' := hmay
      have HKE : Hid (k = V.seats.length) := hke
      clear hmay hven hke
      cases hmb : mayB (normU V ord) with
      | false =>
        rw [hmb] at hmay'
        have HM : Hid (mayB (normU V ord) = false) := hmb
        clear hmb
        go_wp2_with fail
        refine hmay'.mono ?_
        rintro e w7 ⟨rfl, hb⟩
        have t0 := (st.u.next hb).cell 0 _ rfl
        have t1 := (st.u.next hb).cell 1 _ rfl
        have t2 := (st.u.next hb).cell 2 _ rfl
        have t3 := (st.u.next hb).cell 3 _ rfl
        have t4 := (st.u.next hb).cell 4 _ rfl
        have tl := (st.u.next hb).lt
        have y0 := (st.b2.next hb).cell 0 _ rfl
        have f0 := (st.b2.next hb).frozen 0
        have y1 := (st.b2.next hb).cell 1 _ rfl
        have f1 := (st.b2.next hb).frozen 1
        have y2 := (st.b2.next hb).cell 2 _ rfl
        have f2 := (st.b2.next hb).frozen 2
        have y3 := (st.b2.next hb).cell 3 _ rfl
        have f3 := (st.b2.next hb).frozen 3
        have y4 := (st.b2.next hb).cell 4 _ rfl
        have f4 := (st.b2.next hb).frozen 4
        have yl := (st.b2.next hb).lt
        have B7 : Below w.heap.size w w7 := st.below.trans (hb.mono st.below.size)
        clear st hb hmay' u0 u1 u2 u3 u4
        go_wp2_with fail
        refine bodyPost_ret (v := .tuple #[venZ, .bool false]) (by simp [results, Tryz.results62, go_sem, y0, y1, y2, y3, y4]) rfl ⟨ord, HO.out, ?_, Or.inl ⟨HM.out, rfl⟩⟩
        exact Below.setCell (Below.setCell (Below.setCell (Below.setCell (Below.setCell B7 (by simp) _) (by simp) _) (by simp) _) (by simp) _) (by simp) _
      | true =>
        rw [hmb] at hmay'
        have HM : Hid (mayB (normU V ord) = true) := hmb
        clear hmb
        go_wp2_with fail
        refine hmay'.mono ?_
        rintro e w7 ⟨rfl, hb⟩
        have t0 := (st.u.next hb).cell 0 _ rfl
        have t1 := (st.u.next hb).cell 1 _ rfl
        have t2 := (st.u.next hb).cell 2 _ rfl
        have t3 := (st.u.next hb).cell 3 _ rfl
        have t4 := (st.u.next hb).cell 4 _ rfl
        have tl := (st.u.next hb).lt
        have y0 := (st.b2.next hb).cell 0 _ rfl
        have f0 := (st.b2.next hb).frozen 0
        have y1 := (st.b2.next hb).cell 1 _ rfl
        have f1 := (st.b2.next hb).frozen 1
        have y2 := (st.b2.next hb).cell 2 _ rfl
        have f2 := (st.b2.next hb).frozen 2
        have y3 := (st.b2.next hb).cell 3 _ rfl
        have f3 := (st.b2.next hb).frozen 3
        have y4 := (st.b2.next hb).cell 4 _ rfl
        have f4 := (st.b2.next hb).frozen 4
        have yl := (st.b2.next hb).lt
        have B7 : Below w.heap.size w w7 := st.below.trans (hb.mono st.below.size)
        have st7 := st.next hb
        clear st hb hmay' u0 u1 u2 u3 u4
        go_wp2_with fail
        refine bodyPost_ret (v := .tuple #[venV az k cs V.gap V.radius ak m ck ap np cp, .bool true]) (by simp [results, Tryz.results62, go_sem, y0, y1, y2, y3, y4]) rfl ⟨ord, HO.out, ?_, Or.inr ⟨HM.out, az, k, cs, ak, m, ck, ap, np, cp, rfl, ?_⟩⟩
        · exact Below.setCell (Below.setCell (Below.setCell (Below.setCell (Below.setCell B7 (by simp) _) (by simp) _) (by simp) _) (by simp) _) (by simp) _
        · exact ven_rows (row_set5 st7.b2 (by decide) st7.so _ _ _ _ _) (row_set5 st7.b2 (by decide) st7.ko _ _ _ _ _) st7.ml (row_set5 st7.b2 (by decide) st7.po _ _ _ _ _) HKE.out HKE.out HO.out

/-- What venue.Norm may come to. -/
def NormTo (V : Ven) (r : Option Ven) : Prop :=
  (r = none ∧ (4096 < V.seats.length ∨ 200 < V.poles.length ∨ V.kills.all (fun k => isSeatB k V.seats.length) = false)) ∨
  (V.seats.length ≤ 4096 ∧ V.poles.length ≤ 200 ∧ V.kills.all (fun k => isSeatB k V.seats.length) = true ∧ ∃ ord, IsOrder V.seats ord ∧ r = if mayB (normU V ord) then some (normU V ord) else none)
/-- How it is handed back. -/
def NormRes (e : Ending) (w : World) : Option Ven → Prop
  | none => e = .returned (.tuple #[venZ, .bool false])
  | some U => ∃ b1 m1 d1 b2 m2 d2 b3 m3 d3, e = .returned (.tuple #[venV b1 m1 d1 U.gap U.radius b2 m2 d2 b3 m3 d3, .bool true]) ∧ VenAt w b1 m1 d1 b2 m2 d2 b3 m3 d3 U
def NormOwn (e : Ending) (w : World) : Option Ven → Prop
  | none => e = .returned (.tuple #[venZ, .bool false])
  | some U => ∃ b1 m1 d1 b2 m2 d2 b3 m3 d3, e = .returned (.tuple #[venV b1 m1 d1 U.gap U.radius b2 m2 d2 b3 m3 d3, .bool true]) ∧ VenOwn w b1 m1 d1 b2 m2 d2 b3 m3 d3 U
theorem norm_own (a1 a2 a3 : Option Addr) (n1 c1 n2 c2 n3 c3 : Nat) (V : Ven) (w : World) (h : VenAt w a1 n1 c1 a2 n2 c2 a3 n3 c3 V) :
    Calls Tryz.prog 62 #[venV a1 n1 c1 V.gap V.radius a2 n2 c2 a3 n3 c3] w fun e w' => ∃ r, NormTo V r ∧ NormOwn e w' r ∧ Below w.heap.size w w' := by
  have e1 := h.s.len
  have e3 := h.p.len
  by_cases h1 : V.seats.length ≤ 4096
  · by_cases h3 : V.poles.length ≤ 200
    · cases hin : V.kills.all (fun k => isSeatB k V.seats.length) with
      | false => exact (norm_bad a1 a2 a3 n1 c1 n2 c2 n3 c3 V w h h1 h3 hin).mono fun e w' ⟨he, hb⟩ => ⟨none, .inl ⟨rfl, .inr (.inr hin)⟩, he, hb⟩
      | true =>
        subst e1
        refine (norm_main a1 a2 a3 c1 n2 c2 n3 c3 V w h h1 h3 hin).mono ?_
        rintro e w' ⟨ord, ho, hb, ⟨hm, rfl⟩ | ⟨hm, b1, m1, d1, b2, m2, d2, b3, m3, d3, rfl, hv⟩⟩
        · exact ⟨none, .inr ⟨h1, h3, hin, ord, ho, by rw [hm]; rfl⟩, rfl, hb⟩
        · exact ⟨some (normU V ord), .inr ⟨h1, h3, hin, ord, ho, by rw [hm]; rfl⟩, ⟨b1, m1, d1, b2, m2, d2, b3, m3, d3, rfl, hv⟩, hb⟩
    · exact (norm_many a1 a2 a3 n1 c1 n2 c2 n3 c3 V.gap V.radius (by omega) w).mono fun e w' ⟨he, hb⟩ => ⟨none, .inl ⟨rfl, by omega⟩, he, hb⟩
  · exact (norm_many a1 a2 a3 n1 c1 n2 c2 n3 c3 V.gap V.radius (by omega) w).mono fun e w' ⟨he, hb⟩ => ⟨none, .inl ⟨rfl, by omega⟩, he, hb⟩
theorem norm_any (a1 a2 a3 : Option Addr) (n1 c1 n2 c2 n3 c3 : Nat) (V : Ven) (w : World) (h : VenAt w a1 n1 c1 a2 n2 c2 a3 n3 c3 V) :
    Calls Tryz.prog 62 #[venV a1 n1 c1 V.gap V.radius a2 n2 c2 a3 n3 c3] w fun e w' => ∃ r, NormTo V r ∧ NormRes e w' r ∧ Below w.heap.size w w' := by
  refine (norm_own a1 a2 a3 n1 c1 n2 c2 n3 c3 V w h).mono ?_
  rintro e w' ⟨r, hN, hR, hb⟩
  refine ⟨r, hN, ?_, hb⟩
  cases r with
  | none => exact hR
  | some U =>
    obtain ⟨b1, m1, d1, b2, m2, d2, b3, m3, d3, he, hv⟩ := hR
    exact ⟨b1, m1, d1, b2, m2, d2, b3, m3, d3, he, hv.at⟩
end Go.Proofs.YtdffleaokccgmaaGreatDoor.Ven
