/- slices.Index, slices.Contains at ints, by contracts; (*hall).kill by its contract; (*hall).whole by its contract; parse.read by its contract. -/
import Derived.Test.YtpkjhlcolgoknaaGreatDoorZaf
import Derived.Test.YtpkjhlcolgoknaaGreatDoorZag
import Derived.Test.YtpkjhlcolgoknaaGreatDoorVNorm
import Derived.Test.YtpkjhlcolgoknaaGreatDoorTLinesP
namespace Go.Proofs.YtpkjhlcolgoknaaGreatDoor.Par
set_option linter.unusedVariables false
set_option maxRecDepth 100000
open Go.RowKit Go.Shelf
open Go.Proofs.YtpkjhlcolgoknaaGreatDoor.Ven (Sl Cells intC ret_bool ret_int)

/-- Where a number stands first; -1. -/
def idxI (l : List Int) (x : Int) : Int := match l.findIdx? (fun y => y == x) with | some i => i | none => -1
theorem idxI_hit (l : List Int) (x : Int) (k : Nat) (hk : k < l.length) (h : l[k] = x) (hb : ∀ j (hj : j < l.length), j < k → ¬ l[j] = x) : idxI l x = k := by
  have : l.findIdx? (fun y => y == x) = some k := by
    rw [List.findIdx?_eq_some_iff_getElem]
    exact ⟨hk, by simpa using h, fun j hj => by simpa using hb j (by omega) hj⟩
  unfold idxI; rw [this]
theorem idxI_none (l : List Int) (x : Int) (hb : ∀ j (hj : j < l.length), ¬ l[j] = x) : idxI l x = -1 := by
  have : l.findIdx? (fun y => y == x) = none := by
    rw [List.findIdx?_eq_none_iff]
    intro y hy
    obtain ⟨j, hj, rfl⟩ := List.getElem_of_mem hy
    simpa using hb j hj
  unfold idxI; rw [this]
theorem idxI_mem (l : List Int) (x : Int) : decide (0 ≤ idxI l x) = decide (x ∈ l) := by
  unfold idxI
  cases h : l.findIdx? (fun y => y == x) with
  | none =>
    rw [List.findIdx?_eq_none_iff] at h
    have : x ∉ l := fun hx => by have := h x hx; simp at this
    simp [this]
  | some i =>
    rw [List.findIdx?_eq_some_iff_getElem] at h
    obtain ⟨hi, h2, _⟩ := h
    have : x ∈ l := by
      have e : l[i] = x := by simpa using h2
      rw [← e]; exact List.getElem_mem hi
    simp [this]
set_option maxHeartbeats 1000000 in
theorem index_any (l : List Int) (x : Int) (a : Option Addr) (c : Nat) (w : World) (hS : Sl 1 intC w (.slice a l.length c) l) :
    Calls Tryz.prog 138 #[.slice a l.length c, .int .i64 x] w fun e w' => e = .returned (.int .i64 (idxI l x)) ∧ w' = w := by
  have hmx := hS.max
  have HS : Hid (Sl 1 intC w (.slice a l.length c) l) := hS
  clear hS
  go_enter Tryz.func138, Tryz.ntmps138
  go_wp2
  go_loopw [5, 8] (fun _ i wr => ∃ k : Nat, w = wr ∧ k ≤ l.length ∧ i = .int .i64 k ∧ Hid (∀ j (hj : j < l.length), j < k → ¬ l[j] = x)) (fun _ i _ => l.length - (intOf i).toNat)
  case atStart => exact ⟨0, rfl, Nat.zero_le _, rfl, by intro j hj h; omega⟩
  case round =>
    obtain ⟨k, rfl, hk, rfl, HA⟩ := hrel
    by_cases hlt : k < l.length
    · have hltz : (k : Int) < (l.length : Int) := by omega
      obtain ⟨b, off, rfl, hC⟩ := Ven.cells_of_pos HS.out hlt
      have c0 := hC.2 k hlt 0 _ rfl
      have hb := hC.1
      generalize hy : l[k] = y at c0
      have HY : Hid (l[k] = y) := hy
      simp only [Nat.mul_one, Nat.add_zero] at c0
      clear hy hC
      by_cases h1 : x = y
      · have h1' : (x == y) = true := by simpa using h1
        have HK : Hid (idxI l x = k) := idxI_hit l x k hlt (by rw [HY.out]; exact h1.symm) HA.out
        clear h1
        go_wp2
        go_ret
        exact ⟨ret_int HK.out.symm, rfl⟩
      · have h1' : (x == y) = false := by simpa using h1
        have HN : Hid (¬ l[k] = x) := by
          show ¬ l[k] = x
          rw [HY.out]; exact fun h => h1 h.symm
        clear h1
        go_wp2
        go_roundw
        case rel =>
          refine ⟨k + 1, by simp, by omega, by go_num, ?_⟩
          show ∀ j (hj : j < l.length), j < k + 1 → ¬ l[j] = x
          intro j hj h
          rcases Nat.lt_or_ge j k with h' | h'
          · exact HA.out j hj h'
          · have e : j = k := by omega
            subst e; exact HN.out
        case measure => simp [intOf]; omega
    · have hltz : ¬ (k : Int) < (l.length : Int) := by omega
      have HK : Hid (idxI l x = -1) := idxI_none l x (fun j hj => HA.out j hj (by omega))
      go_wp2
      go_ret
      exact ⟨ret_int HK.out.symm, rfl⟩
theorem contains_any (l : List Int) (x : Int) (a : Option Addr) (c : Nat) (w : World) (hS : Sl 1 intC w (.slice a l.length c) l) :
    Calls Tryz.prog 114 #[.slice a l.length c, .int .i64 x] w fun e w' => e = .returned (.bool (decide (x ∈ l))) ∧ w' = w := by
  have hm := idxI_mem l x
  have hi := index_any l x a c w hS
  generalize idxI l x = n at hi hm
  generalize decide (x ∈ l) = bb at hm ⊢
  clear hS
  go_enter Tryz.func114, Tryz.ntmps114
  go_wp2_with fail
  refine hi.mono ?_
  rintro e w1 ⟨rfl, rfl⟩
  go_wp2
  go_ret
  exact ⟨rfl, rfl⟩
end Go.Proofs.YtpkjhlcolgoknaaGreatDoor.Par

namespace Go.Proofs.YtpkjhlcolgoknaaGreatDoor.Par
set_option linter.unusedVariables false
set_option maxRecDepth 100000
open Go.RowKit Go.Shelf Go.Maps
open Go.Proofs.YtpkjhlcolgoknaaGreatDoor.Ven (Seat Pole Ven seatC poleC intC Box row_next row_same row_grown row_setCell row_low rows_apart row_slice ret_bool info3 BelowOf wp_region_quiet_below mixed row_sl Sl)
open Go.Proofs.YtpkjhlcolgoknaaGreatDoor.Prs (atI wordK kindL letsK)

variable {w : World} {base hb : Nat} {az : Option Addr} {cs : Nat} {ak : Option Addr} {ck : Nat} {ap : Option Addr} {cp mb : Nat} {af : Option Addr} {cf : Nat} {s : St} {K : List Int} {fs : List Fact}
/-- What kill leaves. -/
def KillTo (w : World) (base hb : Nat) (az : Option Addr) (cs : Nat) (ap : Option Addr) (cp mb : Nat) (af : Option Addr) (cf : Nat) (s : St) (K : List Int) (fs : List Fact) (kl : Kill) (e : Ending) (w' : World) : Prop :=
  (if atI s.seats kl.row kl.x < 0 then e = .returned (wrongV 2 kl.first.1 kl.first.2) else if atI s.seats kl.row kl.x ∈ K then e = .returned (wrongV 2 kl.word.1 kl.word.2)
    else e = .returned .nilIface ∧ ∃ ak ck, Hall w' base hb az cs ak ck ap cp mb af cf s (K ++ [atI s.seats kl.row kl.x]) fs) ∧ OwnH base w w'
theorem intC_len : ∀ x : Int, (intC x).length = 1 := fun _ => rfl
set_option maxHeartbeats 4000000 in
theorem kill_any (h : Hall w base hb az cs ak ck ap cp mb af cf s K fs) (tk tn tl tc : Int) (tt : List UInt8) (rest : List T) (g cap : Nat) (r x : Int) (fl fc : Int) (hf : FactIs w ⟨(tk, tn, tl, tc, tt), rest, g, cap⟩ ⟨r, x, (tl, tc), (fl, fc)⟩) (hK : K.length < 200) :
    Calls Tryz.prog 81 #[.pointer (some ⟨hb, 0, none⟩), factV tk tn tl tc tt (.slice (restA g cap) rest.length (cap - 1))] w fun e w' => KillTo w base hb az cs ap cp mb af cf s K fs ⟨r, x, (tl, tc), (fl, fc)⟩ e w' := by
  obtain ⟨hrow, h2, hkill, hwr, hwx⟩ := hf
  obtain ⟨hT, hc1, hc2⟩ := hrow.toks
  have hT1 : Tok.Toks w g 5 rest := hT.drop 1
  have h2' : rest.length = 2 := h2
  have hra : restA g cap = some ⟨g, 5, none⟩ := by unfold restA; rw [if_neg (show ¬ cap = 1 by have : rest.length + 1 ≤ cap := hc1; omega)]
  rw [hra]
  injection hkill with k1 k2 k3 k4
  have hn0 : nOf rest 0 = r := k1.symm
  have hn1 : nOf rest 1 = x := k2.symm
  have hs0 : spotT (rest[0]!) = (fl, fc) := k4.symm
  obtain ⟨i0, hi, hz0, hz1, hz2⟩ := info3
  have hB : Below w.heap.size w (w.alloc (.cells #[.int .i64 tk, .int .i64 tn, .int .i64 tl, .int .i64 tc, .string ⟨tt.toArray⟩, .slice (some ⟨g, 5, none⟩) rest.length (cap - 1)] 133)) := (Below.refl _ w).alloc (Nat.le_refl _) _
  have hfb := Box.fresh w 133 #[.int .i64 tk, .int .i64 tn, .int .i64 tl, .int .i64 tc, .string ⟨tt.toArray⟩, .slice (some ⟨g, 5, none⟩) rest.length (cap - 1)]
  have hHW := h.next hB
  have hTW := hT1.next hB
  obtain ⟨c, hc, hlook⟩ := hHW.look hwr hwx
  have hg := atI_ge s.seats r x
  generalize hat : atI s.seats r x = at_ at hc hlook hg
  have HAT : Hid (atI s.seats r x = at_) := hat
  have HH : Hid (Hall w base hb az cs ak ck ap cp mb af cf s K fs) := h
  have HKL : Hid (K.length < 200) := hK
  have HHB : Hid (Below w.heap.size w (w.alloc (.cells #[.int .i64 tk, .int .i64 tn, .int .i64 tl, .int .i64 tc, .string ⟨tt.toArray⟩, .slice (some ⟨g, 5, none⟩) rest.length (cap - 1)] 133))) := hB
  have H2 : Hid (rest.length = 2) := h2'
  have HR2 : Hid (0 < rest.length) := (by omega : 0 < rest.length)
  clear hrow hT hT1 k1 k2 k3 k4 hat h hK hc1 hc2 hwr hwx h2 h2' hB hra
  go_enter Tryz.func81, Tryz.ntmps81
  go_wp2_with fail
  have HBW : Hid (Below w.heap.size w (w.alloc (.cells #[.int .i64 tk, .int .i64 tn, .int .i64 tl, .int .i64 tc, .string ⟨tt.toArray⟩, .slice (some ⟨g, 5, none⟩) rest.length (cap - 1)] 133))) := HHB.out
  generalize w.alloc (.cells #[.int .i64 tk, .int .i64 tn, .int .i64 tl, .int .i64 tc, .string ⟨tt.toArray⟩, .slice (some ⟨g, 5, none⟩) rest.length (cap - 1)] 133) = W at hfb hHW hTW hlook HBW ⊢
  generalize w.heap.size = fb at hfb ⊢
  have HN : Hid (∀ p : BelowOf W, ∀ i : Nat, i < 2 → ∀ n, nOf rest i = n → Calls Tryz.prog 113 #[factV tk tn tl tc tt (.slice (some ⟨g, 5, none⟩) rest.length (cap - 1)), .int .i64 i] p.w fun e w' => e = .returned (.int .i64 n) ∧ Below p.w.heap.size p.w w') := fun p i hi n hn => by
    have h2 := H2.out
    exact number_any tk tn tl tc tt g 5 (cap - 1) rest i (by omega) n (by subst hn; unfold nOf; rw [getElem!_pos rest i (by omega)]) p.w (hTW.next p.h) (by unfold maxLen; omega)
  have HHW : Hid (Hall W base hb az cs ak ck ap cp mb af cf s K fs) := hHW
  have HTW : Hid (Tok.Toks W g 5 rest) := hTW
  have HFB : Hid (Box W fb 133 #[.int .i64 tk, .int .i64 tn, .int .i64 tl, .int .i64 tc, .string ⟨tt.toArray⟩, .slice (some ⟨g, 5, none⟩) rest.length (cap - 1)]) := hfb
  have hne : Nonempty (BelowOf W) := ⟨⟨W, Below.refl _ W⟩⟩
  have d5 := fun p : BelowOf W => (HHW.out.next p.h).box.cell 5 _ rfl
  have e0 := fun p : BelowOf W => (HFB.out.next p.h).cell 0 _ rfl
  have e1 := fun p : BelowOf W => (HFB.out.next p.h).cell 1 _ rfl
  have e2 := fun p : BelowOf W => (HFB.out.next p.h).cell 2 _ rfl
  have e3 := fun p : BelowOf W => (HFB.out.next p.h).cell 3 _ rfl
  have e4 := fun p : BelowOf W => (HFB.out.next p.h).cell 4 _ rfl
  have e5 := fun p : BelowOf W => (HFB.out.next p.h).cell 5 _ rfl
  generalize hbb : decide (0 ≤ at_) = bb at hlook
  have HBBB : Hid (decide (0 ≤ at_) = bb) := hbb
  have HC : Hid (0 ≤ at_ → c = at_) := hc
  have HL : Hid (∀ w', (∃ p : BelowOf W, w' = p.w) → (Instr.lookup 99 (.map (some mb)) (placeV r x) true).run Tryz.prog w' = .ok (.tuple #[.int .i64 c, .bool bb]) w') := fun w' ⟨p, hp⟩ => by subst hp; exact hlook p.w p.h
  have HNR : Hid (nOf rest 0 = r) := hn0
  have HNX : Hid (nOf rest 1 = x) := hn1
  clear hlook hbb hc hHW hTW hfb hn0 hn1
  generalize rest.length = rl at HN e5 HFB H2 HHB ⊢
  refine wp_region_quiet_below mixed (by kernel_rfl) ?_
  repeat (first | (refine wpQuiet_look rfl (.tmp 11) (.tmp 16) 99 rfl mb (placeV r x) _ rfl rfl HL.out ?_; simp only [Act.put, List.setIfInBounds_toArray, List.set_cons_succ, List.set_cons_zero]) | (go_big_quiet_step ((first | (go_at_call_of 113 (Value.int IntKind.i64 0); exact Ven.Calls.below_of (HN.out _ 0 (by omega) r HNR.out)) | (go_at_call_of 113 (Value.int IntKind.i64 1); exact Ven.Calls.below_of (HN.out _ 1 (by omega) x HNX.out))))))
  refine wpQuiet_nil ?_
  rintro _ ⟨p, rfl⟩
  have HB4 : Hid (Below w.heap.size w p.w) := HBW.out.trans (p.h.mono HBW.out.size)
  have HH4 : Hid (Hall p.w base hb az cs ak ck ap cp mb af cf s K fs) := HHW.out.next p.h
  have HT4 : Hid (Tok.Toks p.w g 5 rest) := HTW.out.next p.h
  have HF4 : Hid (Box p.w fb 133 #[.int .i64 tk, .int .i64 tn, .int .i64 tl, .int .i64 tc, .string ⟨tt.toArray⟩, .slice (some ⟨g, 5, none⟩) rl (cap - 1)]) := HFB.out.next p.h
  clear d5 e0 e1 e2 e3 e4 e5 HL HHW HBW HTW HFB hne HN HNR HNX HHB
  generalize p.w = W4 at HB4 HH4 HT4 HF4 ⊢
  clear p
  cases bb
  · have h0 := of_decide_eq_false HBBB.out
    have HN0 : Hid (at_ < 0) := (by omega : at_ < 0)
    have ta := HT4.out.at 0 HR2.out
    rw [getElem!_pos rest 0 HR2.out] at hs0
    generalize rest[0]'HR2.out = t0 at hs0 ta
    obtain ⟨fk, fn, fl', fc', ft⟩ := t0
    obtain ⟨rfl, rfl⟩ : fl' = fl ∧ fc' = fc := by
      simp only [spotT, Prod.mk.injEq] at hs0; exact hs0
    obtain ⟨c0, c1, c2, c3, c4⟩ := ta
    simp only [Nat.zero_mul, Nat.add_zero, Nat.reduceAdd] at c0 c1 c2 c3 c4
    have g5 := HF4.out.cell 5 _ rfl
    have gl := HF4.out.lt
    have tl4 := HT4.out.1
    have hrl : (0 : Int) < (rl : Int) := by have := H2.out; omega
    have h2z : rl = 2 := H2.out
    clear hs0 h0 HBBB HC hg
    go_wp2_with fail
    refine (wrongToken_any fk fn fl' fc' ft _).mono ?_
    rintro e w5 ⟨rfl, hb5⟩
    go_wp2
    go_ret
    unfold KillTo
    rw [HAT.out, if_pos HN0.out]
    exact ⟨rfl, OwnH.of_below (HB4.out.trans (hb5.mono HB4.out.size))⟩
  · have h0 := of_decide_eq_true HBBB.out
    have hca := HC.out h0
    subst hca
    have HN0 : Hid (0 ≤ c) := h0
    have b4 := HH4.out.box
    have q3 := b4.cell 3 _ rfl
    have ql := b4.lt
    have hcon := contains_any K c ak ck W4 (row_sl intC_len HH4.out.ko)
    generalize hcd : decide (c ∈ K) = b2 at hcon
    have HCD : Hid (decide (c ∈ K) = b2) := hcd
    clear h0 HBBB HC hg b4 hcd
    go_wp2_with fail
    refine hcon.mono ?_
    rintro e w5 ⟨rfl, rfl⟩
    clear hcon
    cases b2
    · have hnot := of_decide_eq_false HCD.out
      have HNOT : Hid (¬ c ∈ K) := hnot
      clear hnot HCD
      have hlK := HKL.out
      have HX : Hid (Hall (w5.alloc (.cells #[.int .i64 c] 3)) base hb az cs ak ck ap cp mb af cf s K fs) := HH4.out.next ((Below.refl _ w5).alloc (Nat.le_refl _) _)
      go_wp2_with (at_builtin; refine wpList_append_own _ rfl _ _ 22 rfl base 3 i0 (.int .i64 0) 1 8 Tryz.underlying22 hi hz0 hz1 hz2 rfl (by omega) _ _ _ rfl HX.out.ko ⟨w5.heap.size, 0, none⟩ 1 1 [.int .i64 c] rfl ?qc1 ?qc2 ?qc3 ?qc4 ?qc5 ?qc6 ?_)
      case qc1 => rfl
      case qc2 =>
        intro j u hj
        rw [Addr.add_lit, Nat.zero_add, World.cell?_alloc_at _ _ _ _ rfl]
        show [Value.int .i64 c].toArray[j]? = some u
        rw [List.getElem?_toArray]; exact hj
      case qc3 => intro u hu; simp at hu; subst hu; rfl
      case qc4 => unfold maxLen; omega
      case qc5 => omega
      case qc6 => exact HX.out.hbase
      intro v6 w6 hown6 hgr6 _
      obtain ⟨ak2, ck2, rfl⟩ := row_slice hown6
      have hu6 := HX.out.box.grown hgr6 (HX.out.box.not_row (by decide) HX.out.ko)
      have y3 := hu6.cell 3 _ rfl
      have yf := hu6.frozen 3
      have yl := hu6.lt
      have hd := HX.out.dead c hlK hown6 hgr6
      have HD : Hid (Hall (w6.setCell ⟨hb, 3, none⟩ (.slice ak2 (K.length + 1) ck2)) base hb az cs ak2 ck2 ap cp mb af cf s (K ++ [c]) fs ∧ OwnH base w (w6.setCell ⟨hb, 3, none⟩ (.slice ak2 (K.length + 1) ck2))) := ⟨hd.1, ((OwnH.of_below HB4.out).trans (OwnH.of_below ((Below.refl _ w5).alloc (Nat.le_refl _) _))).trans hd.2⟩
      clear hd hown6 hgr6 hu6 q3 ql
      go_wp2
      go_ret
      unfold KillTo
      rw [HAT.out, if_neg (Int.not_lt.2 HN0.out), if_neg HNOT.out]
      exact ⟨⟨rfl, ak2, ck2, HD.out.1⟩, HD.out.2⟩
    · have hin := of_decide_eq_true HCD.out
      have HIN : Hid (c ∈ K) := hin
      clear hin HCD
      have g0 := HF4.out.cell 0 _ rfl
      have g1 := HF4.out.cell 1 _ rfl
      have g2 := HF4.out.cell 2 _ rfl
      have g3 := HF4.out.cell 3 _ rfl
      have g4 := HF4.out.cell 4 _ rfl
      have gl := HF4.out.lt
      go_wp2_with fail
      refine (wrongToken_any tk tn tl tc tt _).mono ?_
      rintro e w7 ⟨rfl, hb5⟩
      go_wp2
      go_ret
      unfold KillTo
      rw [HAT.out, if_neg (Int.not_lt.2 HN0.out), if_pos HIN.out]
      exact ⟨rfl, OwnH.of_below (HB4.out.trans (hb5.mono HB4.out.size))⟩
end Go.Proofs.YtpkjhlcolgoknaaGreatDoor.Par

namespace Go.Proofs.YtpkjhlcolgoknaaGreatDoor.Par
set_option linter.unusedVariables false
set_option maxRecDepth 100000
open Go.RowKit Go.Shelf Go.Maps
open Go.Proofs.YtpkjhlcolgoknaaGreatDoor.Ven (Seat Pole Ven seatC poleC intC Box row_sl Sl venV venZ VenAt VenOwn NormTo NormOwn norm_own seatC_len poleC_len)
open Go.Proofs.YtpkjhlcolgoknaaGreatDoor.Prs (atI wordK kindL letsK)

theorem OwnH.setNew {base : Nat} {W W' : World} (h : OwnH base W W') {b : Nat} (hb : W.heap.size ≤ b) (i : Nat) (v : Value) : OwnH base W (W'.setCell ⟨b, i, none⟩ v) :=
  ⟨h.os, h.tape, h.output, by simpa using h.size, fun k hk hl => by rw [Below.heap_setCell W' _ v k (show k ≠ b by omega)]; exact h.low k hk hl,
    fun k cs t z hk ht => by
      have hlt := (Array.getElem?_eq_some_iff.1 hk).1
      rw [Below.heap_setCell W' _ v k (show k ≠ b by omega)]; exact h.block k cs t z hk ht⟩
theorem OwnH.next {base : Nat} {W W' W'' : World} (h : OwnH base W W') (hb : Below W'.heap.size W' W'') : OwnH base W W'' := h.trans (OwnH.of_below hb)
variable {w : World} {base hb : Nat} {az : Option Addr} {cs : Nat} {ak : Option Addr} {ck : Nat} {ap : Option Addr} {cp mb : Nat} {af : Option Addr} {cf : Nat} {s : St} {K : List Int} {fs : List Fact}
theorem Hall.ven (h : Hall w base hb az cs ak ck ap cp mb af cf s K fs) : VenAt w az s.seats.length cs ak K.length ck ap s.poles.length cp ⟨s.seats, s.gap, s.radius, K, s.poles⟩ :=
  ⟨row_sl seatC_len h.so, row_sl intC_len h.ko, row_sl poleC_len h.po⟩
/-- How a venue, or an error, is handed back: 'none': it could not be sorted. -/
def Handed (li co : Int) (V : Ven) (e : Ending) (w' : World) : Prop := ∃ r, NormTo V r ∧ match r with
  | none => e = .returned (.tuple #[venZ, wrongV 2 li co])
  | some U => ∃ b1 m1 d1 b2 m2 d2 b3 m3 d3, e = .returned (.tuple #[venV b1 m1 d1 U.gap U.radius b2 m2 d2 b3 m3 d3, .nilIface]) ∧ VenOwn w' b1 m1 d1 b2 m2 d2 b3 m3 d3 U
def WholeTo (w : World) (base : Nat) (li co : Int) (o : Except (Int × Int) Ven) (e : Ending) (w' : World) : Prop :=
  (match o with
  | .error p => e = .returned (.tuple #[venZ, wrongV 2 p.1 p.2])
  | .ok V => Handed li co V e w') ∧ OwnH base w w'
theorem WholeTo.bad {w : World} {base : Nat} {li co : Int} {o : Except (Int × Int) Ven} {p : Int × Int} {w' : World} (ho : o = .error p) (h : OwnH base w w') : WholeTo w base li co o (.returned (.tuple #[venZ, wrongV 2 p.1 p.2])) w' := by subst ho; exact ⟨rfl, h⟩
theorem wholeL_none {s : St} {e : Int × Int} (h : s.seats = [] ∨ s.gap = 0) : wholeL s e = .error e := by unfold wholeL; rw [if_pos h]
theorem wholeL_kills {s : St} {e p : Int × Int} (h : ¬ (s.seats = [] ∨ s.gap = 0)) (hk : killsL s.seats s.kills [] = .error p) : wholeL s e = .error p := by unfold wholeL; rw [if_neg h, hk]
theorem wholeL_ok {s : St} {e : Int × Int} {K : List Int} (h : ¬ (s.seats = [] ∨ s.gap = 0)) (hk : killsL s.seats s.kills [] = .ok K) : wholeL s e = .ok ⟨s.seats, s.gap, s.radius, K, s.poles⟩ := by unfold wholeL; rw [if_neg h, hk]
theorem killsL_at {S : List Seat} {ks : List Kill} {acc K : List Int} {i : Nat} (h : killsL S ks acc = killsL S (ks.drop i) K) (hi : i < ks.length) : killsL S ks acc = if atI S ks[i].row ks[i].x < 0 then .error ks[i].first else if atI S ks[i].row ks[i].x ∈ K then .error ks[i].word else killsL S (ks.drop (i + 1)) (K ++ [atI S ks[i].row ks[i].x]) := by
  rw [h, List.drop_eq_getElem_cons hi]; rfl
set_option maxHeartbeats 4000000 in
theorem whole_any (h : Hall w base hb az cs ak ck ap cp mb af cf s [] fs) (li co : Int) :
    Calls Tryz.prog 48 #[.pointer (some ⟨hb, 0, none⟩), .agg #[.int .i64 li, .int .i64 co]] w fun e w' => WholeTo w base li co (wholeL s (li, co)) e w' := by
  have hbW : Below w.heap.size w ((w.alloc (.cells #[.int .i64 li, .int .i64 co] 27)).alloc (.cells #[.slice none 0 0, .int .i64 0, .int .i64 0, .slice none 0 0, .slice none 0 0] 33)) := ((Below.refl _ w).alloc (Nat.le_refl _) _).alloc (by simp) _
  have hsp : Box ((w.alloc (.cells #[.int .i64 li, .int .i64 co] 27)).alloc (.cells #[.slice none 0 0, .int .i64 0, .int .i64 0, .slice none 0 0, .slice none 0 0] 33)) w.heap.size 27 #[.int .i64 li, .int .i64 co] := (Box.fresh w _ _).next ((Below.refl _ _).alloc (Nat.le_refl _) _)
  have hvn : Box ((w.alloc (.cells #[.int .i64 li, .int .i64 co] 27)).alloc (.cells #[.slice none 0 0, .int .i64 0, .int .i64 0, .slice none 0 0, .slice none 0 0] 33)) (w.heap.size + 1) 33 #[.slice none 0 0, .int .i64 0, .int .i64 0, .slice none 0 0, .slice none 0 0] := by
    have := Box.fresh (w.alloc (.cells #[.int .i64 li, .int .i64 co] 27)) 33 #[.slice none 0 0, .int .i64 0, .int .i64 0, .slice none 0 0, .slice none 0 0]
    rw [World.size_alloc] at this; exact this
  have hHW := h.next hbW
  have hx := h.box
  have b0 := hx.cell 0 _ rfl
  have b1 := hx.cell 1 _ rfl
  have b6 := hx.cell 6 _ rfl
  have blt := hx.lt
  have b1w := hHW.box.cell 1 _ rfl
  have bltw := hHW.box.lt
  have hls := h.ls
  have hlk := h.lk
  have HBW : Hid (Below w.heap.size w ((w.alloc (.cells #[.int .i64 li, .int .i64 co] 27)).alloc (.cells #[.slice none 0 0, .int .i64 0, .int .i64 0, .slice none 0 0, .slice none 0 0] 33))) := hbW
  have HHW : Hid (Hall ((w.alloc (.cells #[.int .i64 li, .int .i64 co] 27)).alloc (.cells #[.slice none 0 0, .int .i64 0, .int .i64 0, .slice none 0 0, .slice none 0 0] 33)) base hb az cs ak ck ap cp mb af cf s [] fs) := hHW
  have HSP : Hid (Box ((w.alloc (.cells #[.int .i64 li, .int .i64 co] 27)).alloc (.cells #[.slice none 0 0, .int .i64 0, .int .i64 0, .slice none 0 0, .slice none 0 0] 33)) w.heap.size 27 #[.int .i64 li, .int .i64 co]) := hsp
  have HVN : Hid (Box ((w.alloc (.cells #[.int .i64 li, .int .i64 co] 27)).alloc (.cells #[.slice none 0 0, .int .i64 0, .int .i64 0, .slice none 0 0, .slice none 0 0] 33)) (w.heap.size + 1) 33 #[.slice none 0 0, .int .i64 0, .int .i64 0, .slice none 0 0, .slice none 0 0]) := hvn
  clear hbW hHW hsp hvn hx
  have hgap := hasGap_any hb s.gap _ bltw b1w
  clear b1w bltw
  by_cases hse : s.seats = []
  · have HE : Hid (wholeL s (li, co) = .error (li, co)) := wholeL_none (.inl hse)
    have hz : ((s.seats.length : Int) == 0) = true := by simp [hse]
    clear hse hgap
    generalize s.seats.length = sl at b0 hz hls
    go_enter Tryz.func48, Tryz.ntmps48
    go_wp2_with fail
    refine (wrongAt_any li co _).mono ?_
    rintro e w1 ⟨rfl, hb1⟩
    clear b0 b1 b6 blt
    have vx := HVN.out.next hb1
    have v0 := vx.cell 0 _ rfl
    have vf0 := vx.frozen 0
    have v1 := vx.cell 1 _ rfl
    have vf1 := vx.frozen 1
    have v2 := vx.cell 2 _ rfl
    have vf2 := vx.frozen 2
    have v3 := vx.cell 3 _ rfl
    have vf3 := vx.frozen 3
    have v4 := vx.cell 4 _ rfl
    have vf4 := vx.frozen 4
    have vl := vx.lt
    have HOW : Hid (OwnH base w w1) := OwnH.of_below (HBW.out.trans (hb1.mono HBW.out.size))
    clear vx
    go_wp2_with fail
    refine bodyPost_ret (v := .tuple #[venZ, wrongV 2 li co]) (by simp [results, Tryz.results48, go_sem, v0, v1, v2, v3, v4]) rfl ?_
    exact WholeTo.bad HE.out (((((HOW.out.setNew (by omega) 0 _).setNew (by omega) 1 _).setNew (by omega) 2 _).setNew (by omega) 3 _).setNew (by omega) 4 _)
  · have hz : ((s.seats.length : Int) == 0) = false := by
      have : ¬ s.seats.length = 0 := fun hc => hse (List.length_eq_zero_iff.1 hc)
      simp; omega
    have HSE : Hid (¬ s.seats = []) := hse
    clear hse
    go_enter Tryz.func48, Tryz.ntmps48
    go_wp2_with fail
    refine hgap.mono ?_
    rintro e w1 ⟨rfl, rfl⟩
    clear hgap
    by_cases hg0 : s.gap = 0
    · have HE : Hid (wholeL s (li, co) = .error (li, co)) := wholeL_none (.inr hg0)
      have hgb : (s.gap == 0) = true := by simp [hg0]
      rw [hgb]
      clear hg0 hgb
      go_wp2_with fail
      refine (wrongAt_any li co _).mono ?_
      rintro e w1 ⟨rfl, hb1⟩
      clear b0 b1 b6 blt
      have vx := HVN.out.next hb1
      have v0 := vx.cell 0 _ rfl
      have vf0 := vx.frozen 0
      have v1 := vx.cell 1 _ rfl
      have vf1 := vx.frozen 1
      have v2 := vx.cell 2 _ rfl
      have vf2 := vx.frozen 2
      have v3 := vx.cell 3 _ rfl
      have vf3 := vx.frozen 3
      have v4 := vx.cell 4 _ rfl
      have vf4 := vx.frozen 4
      have vl := vx.lt
      have HOW : Hid (OwnH base w w1) := OwnH.of_below (HBW.out.trans (hb1.mono HBW.out.size))
      clear vx
      go_wp2_with fail
      refine bodyPost_ret (v := .tuple #[venZ, wrongV 2 li co]) (by simp [results, Tryz.results48, go_sem, v0, v1, v2, v3, v4]) rfl ?_
      exact WholeTo.bad HE.out (((((HOW.out.setNew (by omega) 0 _).setNew (by omega) 1 _).setNew (by omega) 2 _).setNew (by omega) 3 _).setNew (by omega) 4 _)
    · have hgb : (s.gap == 0) = false := by simpa using hg0
      have HG0 : Hid (¬ (s.seats = [] ∨ s.gap = 0)) := fun hc => hc.elim HSE.out hg0
      rw [hgb]
      clear hg0 hgb HSE
      go_wp2_with fail
      have HFL : Hid (fs.length = s.kills.length) := HHW.out.fl
      clear b0 b1 b6 blt hz h
      go_loopw [7, 8, 31] (fun _ _ i wr => ∃ (k : Nat) (ak : Option Addr) (ck : Nat) (K : List Int), k ≤ s.kills.length ∧ i = .int .i64 k ∧ Hid (Hall wr base hb az cs ak ck ap cp mb af cf s K fs) ∧ Hid (K.length = k) ∧ Hid (killsL s.seats s.kills [] = killsL s.seats (s.kills.drop k) K) ∧ Hid (OwnH base w wr) ∧ Hid (Box wr w.heap.size 27 #[.int .i64 li, .int .i64 co]) ∧ Hid (Box wr (w.heap.size + 1) 33 #[.slice none 0 0, .int .i64 0, .int .i64 0, .slice none 0 0, .slice none 0 0])) (fun _ _ i _ => s.kills.length - (intOf i).toNat)
      case atStart => exact ⟨0, ak, ck, [], Nat.zero_le _, rfl, HHW.out, rfl, rfl, OwnH.of_below HBW.out, HSP.out, HVN.out⟩
      case round =>
        obtain ⟨k, ak, ck, K, hk, rfl, HHR, HKL, HKI, HOR, HSR, HVR⟩ := hrel
        by_cases hlt : k < s.kills.length
        · have hltz : (k : Int) < (s.kills.length : Int) := by omega
          have hkf : k < fs.length := by have := HFL.out; omega
          have hsl : Sl 6 factC wr (.slice af fs.length cf) fs := row_sl factC_len (by have := HHR.out.fo; rw [← HFL.out] at this; exact this)
          obtain ⟨b, off, rfl, hC⟩ := Ven.cells_of_pos hsl hkf
          have hfi := HHR.out.ft k hkf
          have hat := killsL_at HKI.out hlt
          have hbl := hC.1
          obtain ⟨f, hfk⟩ : ∃ f, fs[k]'hkf = f := ⟨_, rfl⟩
          obtain ⟨⟨tk, tn, tl, tc, tt⟩, rest, g, cap⟩ := f
          rw [hfk] at hfi
          have c0 : wr.cell? ⟨b, off + k * 6, none⟩ = some (.int .i64 tk) := hC.2 k hkf 0 _ (by rw [hfk]; rfl)
          have c1 : wr.cell? ⟨b, off + k * 6 + 1, none⟩ = some (.int .i64 tn) := hC.2 k hkf 1 _ (by rw [hfk]; rfl)
          have c2 : wr.cell? ⟨b, off + k * 6 + 2, none⟩ = some (.int .i64 tl) := hC.2 k hkf 2 _ (by rw [hfk]; rfl)
          have c3 : wr.cell? ⟨b, off + k * 6 + 3, none⟩ = some (.int .i64 tc) := hC.2 k hkf 3 _ (by rw [hfk]; rfl)
          have c4 : wr.cell? ⟨b, off + k * 6 + 4, none⟩ = some (.string ⟨tt.toArray⟩) := hC.2 k hkf 4 _ (by rw [hfk]; rfl)
          have c5 : wr.cell? ⟨b, off + k * 6 + 5, none⟩ = some (.slice (restA g cap) rest.length (cap - 1)) := hC.2 k hkf 5 _ (by rw [hfk]; rfl)
          generalize s.kills[k]'hlt = kl at hfi hat
          obtain ⟨r, x, ⟨wl, wc⟩, ⟨fl, fc⟩⟩ := kl
          obtain ⟨rfl, rfl⟩ : wl = tl ∧ wc = tc := by
            have := hfi.kill
            injection this with _ _ h3 _
            simp only [spotT, Prod.mk.injEq] at h3; exact h3
          have HAT : Hid (killsL s.seats s.kills [] = if atI s.seats r x < 0 then .error (fl, fc) else if atI s.seats r x ∈ K then .error (wl, wc) else killsL s.seats (s.kills.drop (k + 1)) (K ++ [atI s.seats r x])) := hat
          have hB1 : Below wr.heap.size wr (wr.alloc (.cells #[.int .i64 tk, .int .i64 tn, .int .i64 wl, .int .i64 wc, .string ⟨tt.toArray⟩, .slice (restA g cap) rest.length (cap - 1)] 133)) := (Below.refl _ wr).alloc (Nat.le_refl _) _
          have hkc := kill_any (HHR.out.next hB1) tk tn wl wc tt rest g cap r x fl fc (hfi.own (OwnH.of_below (base := 0) hB1)) (by have := HKL.out; omega)
          have HB1 : Hid (Below wr.heap.size wr (wr.alloc (.cells #[.int .i64 tk, .int .i64 tn, .int .i64 wl, .int .i64 wc, .string ⟨tt.toArray⟩, .slice (restA g cap) rest.length (cap - 1)] 133))) := hB1
          clear hat hfi hC hsl hB1 hfk
          go_wp2_with fail
          refine hkc.mono ?_
          intro e w2 hKT
          clear hkc c0 c1 c2 c3 c4 c5
          obtain ⟨hKT, hO2⟩ := hKT
          have HO2 : Hid (OwnH base (wr.alloc (.cells #[.int .i64 tk, .int .i64 tn, .int .i64 wl, .int .i64 wc, .string ⟨tt.toArray⟩, .slice (restA g cap) rest.length (cap - 1)] 133)) w2) := hO2
          have HS2 : Hid (Box w2 w.heap.size 27 #[.int .i64 li, .int .i64 co]) := HO2.out.box (HSR.out.next HB1.out) (by decide)
          have HV2 : Hid (Box w2 (w.heap.size + 1) 33 #[.slice none 0 0, .int .i64 0, .int .i64 0, .slice none 0 0, .slice none 0 0]) := HO2.out.box (HVR.out.next HB1.out) (by decide)
          have HOR2 : Hid (OwnH base w w2) := (HOR.out.next HB1.out).trans HO2.out
          clear hO2
          by_cases ha : atI s.seats r x < 0
          · rw [if_pos ha] at hKT
            subst hKT
            have HE : Hid (wholeL s (li, co) = .error (fl, fc)) := wholeL_kills HG0.out (by rw [HAT.out, if_pos ha])
            clear ha
            have vx := HV2.out
            have v0 := vx.cell 0 _ rfl
            have vf0 := vx.frozen 0
            have v1 := vx.cell 1 _ rfl
            have vf1 := vx.frozen 1
            have v2 := vx.cell 2 _ rfl
            have vf2 := vx.frozen 2
            have v3 := vx.cell 3 _ rfl
            have vf3 := vx.frozen 3
            have v4 := vx.cell 4 _ rfl
            have vf4 := vx.frozen 4
            have vl := vx.lt
            have HOW : Hid (OwnH base w w2) := HOR2.out
            clear vx
            go_wp2_with fail
            refine bodyPost_ret (v := .tuple #[venZ, wrongV 2 fl fc]) (by simp [results, Tryz.results48, go_sem, v0, v1, v2, v3, v4]) rfl ?_
            exact WholeTo.bad HE.out (((((HOW.out.setNew (by omega) 0 _).setNew (by omega) 1 _).setNew (by omega) 2 _).setNew (by omega) 3 _).setNew (by omega) 4 _)
          · rw [if_neg ha] at hKT
            by_cases hm : atI s.seats r x ∈ K
            · rw [if_pos hm] at hKT
              subst hKT
              have HE : Hid (wholeL s (li, co) = .error (wl, wc)) := wholeL_kills HG0.out (by rw [HAT.out, if_neg ha, if_pos hm])
              clear ha hm
              have vx := HV2.out
              have v0 := vx.cell 0 _ rfl
              have vf0 := vx.frozen 0
              have v1 := vx.cell 1 _ rfl
              have vf1 := vx.frozen 1
              have v2 := vx.cell 2 _ rfl
              have vf2 := vx.frozen 2
              have v3 := vx.cell 3 _ rfl
              have vf3 := vx.frozen 3
              have v4 := vx.cell 4 _ rfl
              have vf4 := vx.frozen 4
              have vl := vx.lt
              have HOW : Hid (OwnH base w w2) := HOR2.out
              clear vx
              go_wp2_with fail
              refine bodyPost_ret (v := .tuple #[venZ, wrongV 2 wl wc]) (by simp [results, Tryz.results48, go_sem, v0, v1, v2, v3, v4]) rfl ?_
              exact WholeTo.bad HE.out (((((HOW.out.setNew (by omega) 0 _).setNew (by omega) 1 _).setNew (by omega) 2 _).setNew (by omega) 3 _).setNew (by omega) 4 _)
            · rw [if_neg hm] at hKT
              obtain ⟨rfl, ak2, ck2, hH2⟩ := hKT
              have HH2 : Hid (Hall w2 base hb az cs ak2 ck2 ap cp mb (some ⟨b, off, none⟩) cf s (K ++ [atI s.seats r x]) fs) := hH2
              have HKI2 : Hid (killsL s.seats s.kills [] = killsL s.seats (s.kills.drop (k + 1)) (K ++ [atI s.seats r x])) := by
                show _ = _
                rw [HAT.out, if_neg ha, if_neg hm]
              clear ha hm hH2
              go_wp2_with fail
              go_roundw
              case rel => exact ⟨k + 1, ak2, ck2, K ++ [atI s.seats r x], by omega, by go_num, HH2, by show _ = _; rw [List.length_append, HKL.out]; rfl, HKI2, HOR2, HS2, HV2⟩
              case measure => simp [intOf]; omega
        · have hltz : ¬ (k : Int) < (s.kills.length : Int) := by omega
          have HE : Hid (wholeL s (li, co) = .ok ⟨s.seats, s.gap, s.radius, K, s.poles⟩) := wholeL_ok HG0.out (by rw [HKI.out, List.drop_of_length_le (by omega)]; rfl)
          have hx := HHR.out.box
          have b0 := hx.cell 0 _ rfl
          have b1 := hx.cell 1 _ rfl
          have b2 := hx.cell 2 _ rfl
          have b3 := hx.cell 3 _ rfl
          have b4 := hx.cell 4 _ rfl
          have bl := hx.lt
          have hnm := norm_own az ak ap s.seats.length cs K.length ck s.poles.length cp ⟨s.seats, s.gap, s.radius, K, s.poles⟩ wr HHR.out.ven
          clear hx
          go_wp2_with fail
          refine hnm.mono ?_
          rintro e w1 ⟨r, hN, hR, hb1⟩
          have HN : Hid (NormTo ⟨s.seats, s.gap, s.radius, K, s.poles⟩ r) := hN
          clear hnm b0 b1 b2 b3 b4 bl hN
          cases r with
          | none =>
            have hR' : e = .returned (.tuple #[venZ, .bool false]) := hR
            subst hR'
            have s1 := HSR.out.next hb1
            have z0 := s1.cell 0 _ rfl
            have z1 := s1.cell 1 _ rfl
            have zl := s1.lt
            have HB1 : Hid (Below wr.heap.size wr w1) := hb1
            clear hb1 s1
            go_wp2_with fail
            refine (wrongAt_any li co _).mono ?_
            rintro e w2 ⟨rfl, hb2⟩
            have hB12 : Below w1.heap.size w1 w2 := ((Below.refl _ w1).alloc (Nat.le_refl _) _).trans (hb2.mono (by simp))
            have hB02 := HB1.out.trans (hB12.mono HB1.out.size)
            clear z0 z1 zl
            have HW2 : Hid (Below wr.heap.size wr w2) := hB02
            clear hB12 hB02 hb2
            have vx := HVR.out.next HW2.out
            have v0 := vx.cell 0 _ rfl
            have vf0 := vx.frozen 0
            have v1 := vx.cell 1 _ rfl
            have vf1 := vx.frozen 1
            have v2 := vx.cell 2 _ rfl
            have vf2 := vx.frozen 2
            have v3 := vx.cell 3 _ rfl
            have vf3 := vx.frozen 3
            have v4 := vx.cell 4 _ rfl
            have vf4 := vx.frozen 4
            have vl := vx.lt
            have HOW : Hid (OwnH base w w2) := HOR.out.next HW2.out
            clear vx
            go_wp2_with fail
            refine bodyPost_ret (v := .tuple #[venZ, wrongV 2 li co]) (by simp [results, Tryz.results48, go_sem, v0, v1, v2, v3, v4]) rfl ?_
            rw [HE.out]
            exact ⟨⟨none, HN.out, rfl⟩, ((((HOW.out.setNew (by omega) 0 _).setNew (by omega) 1 _).setNew (by omega) 2 _).setNew (by omega) 3 _).setNew (by omega) 4 _⟩
          | some U =>
            obtain ⟨p1, m1, d1, p2, m2, d2, p3, m3, d3, rfl, hU⟩ := hR
            have hvx := HVR.out.next hb1
            have HVX : Hid (Box w1 (w.heap.size + 1) 33 #[.slice none 0 0, .int .i64 0, .int .i64 0, .slice none 0 0, .slice none 0 0]) := hvx
            have v0 := hvx.cell 0 _ rfl
            have v1 := hvx.cell 1 _ rfl
            have v2 := hvx.cell 2 _ rfl
            have v3 := hvx.cell 3 _ rfl
            have v4 := hvx.cell 4 _ rfl
            have f0 := hvx.frozen 0
            have f1 := hvx.frozen 1
            have f2 := hvx.frozen 2
            have f3 := hvx.frozen 3
            have f4 := hvx.frozen 4
            have vl := hvx.lt
            have HOW : Hid (OwnH base w w1) := HOR.out.next hb1
            have HU : Hid (VenOwn w1 p1 m1 d1 p2 m2 d2 p3 m3 d3 U) := hU
            clear hU hb1 hvx
            go_wp2_with fail
            refine bodyPost_ret (v := .tuple #[venV p1 m1 d1 U.gap U.radius p2 m2 d2 p3 m3 d3, .nilIface]) (by simp [results, Tryz.results48, go_sem, vl, v0, v1, v2, v3, v4]) rfl ?_
            rw [HE.out]
            have x0 := HVX.out
            have u0 := HU.out
            have x1 := x0.set 0 (.slice p1 m1 d1)
            have u1 := u0.set x0 (by decide) (by decide) (by decide) 0 (.slice p1 m1 d1)
            have x2 := x1.set 1 (.int .i64 U.gap)
            have u2 := u1.set x1 (by decide) (by decide) (by decide) 1 (.int .i64 U.gap)
            have x3 := x2.set 2 (.int .i64 U.radius)
            have u3 := u2.set x2 (by decide) (by decide) (by decide) 2 (.int .i64 U.radius)
            have x4 := x3.set 3 (.slice p2 m2 d2)
            have u4 := u3.set x3 (by decide) (by decide) (by decide) 3 (.slice p2 m2 d2)
            have u5 := u4.set x4 (by decide) (by decide) (by decide) 4 (.slice p3 m3 d3)
            exact ⟨⟨some U, HN.out, p1, m1, d1, p2, m2, d2, p3, m3, d3, rfl, u5.next ((Below.refl _ _).alloc (Nat.le_refl _) _)⟩, (((((HOW.out.setNew (by omega) 0 _).setNew (by omega) 1 _).setNew (by omega) 2 _).setNew (by omega) 3 _).setNew (by omega) 4 _).next ((Below.refl _ _).alloc (Nat.le_refl _) _)⟩
end Go.Proofs.YtpkjhlcolgoknaaGreatDoor.Par

namespace Go.Proofs.YtpkjhlcolgoknaaGreatDoor.Par
set_option linter.unusedVariables false
set_option maxRecDepth 100000
open Go.RowKit Go.Shelf Go.Maps
open Go.Proofs.YtpkjhlcolgoknaaGreatDoor.Ven (Seat Pole Ven seatC poleC intC Box row_next row_slice row_setCell venV venZ VenOwn NormTo)
open Go.Proofs.YtpkjhlcolgoknaaGreatDoor.Prs (atI wordK kindL letsK)

theorem all_large (l : List UInt8) (hl : 1048576 < l.length) (w : World) :
    Calls Tryz.prog 45 #[.string ⟨l.toArray⟩] w fun e w' => e = .returned (.tuple #[.slice none 0 0, .agg #[.int .i64 0, .int .i64 0], .int .i64 3]) ∧ Below w.heap.size w w' := by
  have hz : (1048576 : Int) < (l.length : Int) := by omega
  go_enter Tryz.func45, Tryz.ntmps45
  go_wp2
  refine bodyPost_ret (v := .tuple #[.slice none 0 0, .agg #[.int .i64 0, .int .i64 0], .int .i64 3]) (by simp [results, Tryz.results45, go_sem]) rfl ?_
  exact ⟨rfl, (Below.refl _ w).alloc (Nat.le_refl _) _⟩
/-- A hall of which nothing was told. -/
theorem Hall.fresh (w : World) : Hall ((w.alloc (.map #[] 0)).alloc (.cells #[.slice none 0 0, .int .i64 0, .int .i64 0, .slice none 0 0, .slice none 0 0, .map (some w.heap.size), .slice none 0 0, .bool false] 102)) w.heap.size (w.heap.size + 1) none 0 none 0 none 0 w.heap.size none 0 St.zero [] [] :=
  { hbase := by simp; omega, ge := by omega, mge := Nat.le_refl _
    box := by
      have := Box.fresh (w.alloc (.map #[] 0)) 102 #[.slice none 0 0, .int .i64 0, .int .i64 0, .slice none 0 0, .slice none 0 0, .map (some w.heap.size), .slice none 0 0, .bool false]
      rw [World.size_alloc] at this; exact this
    so := World.ownsRow_nil _ _ _ _, ko := World.ownsRow_nil _ _ _ _, po := World.ownsRow_nil _ _ _ _, fo := World.ownsRow_nil _ _ _ _
    fl := rfl, ft := fun i hi => absurd hi (Nat.not_lt_zero _)
    map := ⟨.map [], 0, by
      have hB : Below (w.alloc (.map #[] 0)).heap.size (w.alloc (.map #[] 0)) ((w.alloc (.map #[] 0)).alloc (.cells #[.slice none 0 0, .int .i64 0, .int .i64 0, .slice none 0 0, .slice none 0 0, .map (some w.heap.size), .slice none 0 0, .bool false] 102)) := (Below.refl _ _).alloc (Nat.le_refl _) _
      exact (World.ownsMap_made w Tryz.prog 178 (plainElem Tryz.prog 3)).kept (row := none) ⟨hB.os, hB.tape, hB.output, hB.size, fun k hk _ => hB.block k hk⟩ (by simp), Nat.zero_le _, MapOf.nil⟩
    ls := by decide, lp := by decide, lk := by decide, lK := by decide }
/-- What reading a text comes to. -/
def TextTo (w : World) (o : Except (Int × Int × Int) Ven) (e : Ending) (w' : World) : Prop :=
  (match o with
  | .error p => e = .returned (.tuple #[venZ, wrongV p.1 p.2.1 p.2.2])
  | .ok V => ∃ li co, Handed li co V e w') ∧ Below w.heap.size w w'
theorem TextTo.bad {w : World} {o : Except (Int × Int × Int) Ven} {c li co : Int} {w' : World} (ho : o = .error (c, li, co)) (h : Below w.heap.size w w') : TextTo w o (.returned (.tuple #[venZ, wrongV c li co])) w' := by subst ho; exact ⟨rfl, h⟩
theorem readL_large {l : List UInt8} (h : 1048576 < l.length) : readL l = .error (3, 0, 0) := by unfold readL; rw [if_pos h]
theorem readL_bad {l : List UInt8} (h : ¬ 1048576 < l.length) {ts : List T} {li co code : Int} (hA : Tok.allOf l = (ts, li, co, code)) (hc : ¬ code = 0) : readL l = .error (code, li, co) := by
  unfold readL; rw [if_neg h]; simp only [hA]; rw [if_neg hc]
theorem readL_line {l : List UInt8} (h : ¬ 1048576 < l.length) {ts : List T} {li co : Int} (hA : Tok.allOf l = (ts, li, co, 0)) {p : Int × Int} (hl : linesL ts (li, co) (ts.length + 1) 0 St.zero = .error p) : readL l = .error (2, p) := by
  unfold readL; rw [if_neg h]; simp only [hA, hl]; rfl
theorem readL_whole {l : List UInt8} (h : ¬ 1048576 < l.length) {ts : List T} {li co : Int} (hA : Tok.allOf l = (ts, li, co, 0)) {s : St} (hl : linesL ts (li, co) (ts.length + 1) 0 St.zero = .ok s) : readL l = match wholeL s (li, co) with | .error p => .error (2, p) | .ok V => .ok V := by
  unfold readL; rw [if_neg h]; simp only [hA, hl]; rfl
set_option maxHeartbeats 4000000 in
theorem read_code (l : List UInt8) (w : World) (li co code : Int) (hc : ¬ code = 0) (o : Except (Int × Int × Int) Ven) (ho : o = .error (code, li, co))
    (hA : Calls Tryz.prog 45 #[.string ⟨l.toArray⟩] (w.alloc (.cells #[.slice none 0 0, .int .i64 0, .int .i64 0, .slice none 0 0, .slice none 0 0] 33)) fun e w' => (∃ a n c, e = .returned (.tuple #[.slice a n c, .agg #[.int .i64 li, .int .i64 co], .int .i64 code])) ∧ Below (w.alloc (.cells #[.slice none 0 0, .int .i64 0, .int .i64 0, .slice none 0 0, .slice none 0 0] 33)).heap.size (w.alloc (.cells #[.slice none 0 0, .int .i64 0, .int .i64 0, .slice none 0 0, .slice none 0 0] 33)) w') :
    Calls Tryz.prog 25 #[.string ⟨l.toArray⟩] w fun e w' => TextTo w o e w' := by
  have HO : Hid (o = .error (code, li, co)) := ho
  have hcz : (code == 0) = false := by simpa using hc
  have hvn := Box.fresh w 33 #[.slice none 0 0, .int .i64 0, .int .i64 0, .slice none 0 0, .slice none 0 0]
  have HB0 : Hid (Below w.heap.size w (w.alloc (.cells #[.slice none 0 0, .int .i64 0, .int .i64 0, .slice none 0 0, .slice none 0 0] 33))) := (Below.refl _ w).alloc (Nat.le_refl _) _
  clear ho hc
  go_enter Tryz.func25, Tryz.ntmps25
  go_wp2_with fail
  refine hA.mono ?_
  rintro e w1 ⟨⟨a, n, c, rfl⟩, hb1⟩
  have hv1 := hvn.next hb1
  have v0 := hv1.cell 0 _ rfl
  have v1 := hv1.cell 1 _ rfl
  have v2 := hv1.cell 2 _ rfl
  have v3 := hv1.cell 3 _ rfl
  have v4 := hv1.cell 4 _ rfl
  have f0 := hv1.frozen 0
  have f1 := hv1.frozen 1
  have f2 := hv1.frozen 2
  have f3 := hv1.frozen 3
  have f4 := hv1.frozen 4
  have vl := hv1.lt
  have HB1 : Hid (Below w.heap.size w w1) := HB0.out.trans (hb1.mono HB0.out.size)
  clear hvn hv1 hb1 hA HB0
  go_wp2_with fail
  go_region
  all_goals
    go_wp2_with fail
    refine bodyPost_ret (v := .tuple #[venZ, wrongV code li co]) (by simp [results, Tryz.results25, go_sem, v0, v1, v2, v3, v4, vl]) rfl ?_
    refine TextTo.bad HO.out ?_
    have hh := HB1.out.size
    exact (Below.alloc (Below.setCell (Below.setCell (Below.setCell (Below.setCell (Below.setCell HB1.out (by simp) _) (by simp) _) (by simp) _) (by simp) _) (by simp) _) (by simpa using hh) _).drew
theorem readLine_any {w : World} {base hb : Nat} {az : Option Addr} {cs : Nat} {ak : Option Addr} {ck : Nat} {ap : Option Addr} {cp mb : Nat} {af : Option Addr} {cf : Nat} {s : St} {K : List Int} {fs : List Fact} (h : Hall w base hb az cs ak ck ap cp mb af cf s K fs) (X : List T) {b' : Nat} (va : Option Addr) (vc : Nat) (hrow : Tok.Row w b' (.slice va X.length vc) X) (li co : Int) :
    Calls Tryz.prog 47 #[.pointer (some ⟨hb, 0, none⟩), lineV (.slice va X.length vc) li co] w fun e w' => ReadTo w base hb mb K (lineL X (li, co) s) e w' := by
  cases X with
  | nil => exact readLine_nil h va vc li co
  | cons t r =>
    rcases hrow.toks with ⟨hv, _⟩ | ⟨g, cap, hv, _, _, _, _, _⟩
    · injection hv with _ hv _; simp at hv
    · injection hv with h1 h2 h3
      subst h1 h3
      obtain ⟨tk, tn, tl, tc, tt⟩ := t
      exact readLine_cons h tk tn tl tc tt r g vc (Tok.Row.le hrow (Nat.zero_le _)) li co
/-- What the loop over the lines holds. -/
structure LSt (w W : World) (base hb mb rb sb : Nat) (li co : Int) (v : Value) (ts : List T) (a : Nat) (s : St) (az : Option Addr) (cs : Nat) (ak : Option Addr) (ck : Nat) (ap : Option Addr) (cp : Nat) (af : Option Addr) (cf : Nat) (fs : List Fact) (wr : World) : Prop where
  hall : Hall wr base hb az cs ak ck ap cp mb af cf s [] fs
  far : Far ts (li, co) a s
  own : OwnH base W wr
  row : Tok.Row wr 0 v ts
  rb : Box wr rb 33 #[.slice none 0 0, .int .i64 0, .int .i64 0, .slice none 0 0, .slice none 0 0]
  sb : Box wr sb 27 #[.int .i64 li, .int .i64 co]
theorem OwnH.lowly {base : Nat} {w W W' : World} (h0 : Below w.heap.size w W) (hb : w.heap.size ≤ base) (hW : base ≤ W.heap.size) (h : OwnH base W W') : Below w.heap.size w W' := h0.trans ((h.below hW).mono hb)
set_option maxHeartbeats 4000000 in
theorem read_lines (l : List UInt8) (hl : l.length ≤ 1048576) (w : World) (hR : Tok.Rng w) (ts : List T) (li co : Int) (hA : Tok.allOf l = (ts, li, co, 0)) :
    Calls Tryz.prog 25 #[.string ⟨l.toArray⟩] w fun e w' => TextTo w (readL l) e w' := by
  have hn : ¬ 1048576 < l.length := by omega
  have hlen : ts.length ≤ 1048576 := by
    have := Tok.allP_len l.length l 1 1 (Nat.le_refl _)
    rw [← Tok.allOf_P, hA] at this
    have h2 : ts.length ≤ l.length := this
    omega
  have HRL : Hid (∀ p, linesL ts (li, co) (ts.length + 1) 0 St.zero = .error p → readL l = .error (2, p)) := fun p hp => readL_line hn hA hp
  have HRW : Hid (∀ s, linesL ts (li, co) (ts.length + 1) 0 St.zero = .ok s → readL l = match wholeL s (li, co) with | .error p => .error (2, p) | .ok V => .ok V) := fun s hp => readL_whole hn hA hp
  have hB0 : Below w.heap.size w (w.alloc (.cells #[.slice none 0 0, .int .i64 0, .int .i64 0, .slice none 0 0, .slice none 0 0] 33)) := (Below.refl _ w).alloc (Nat.le_refl _) _
  have hall := Tok.all_any l hl _ (hR.next hB0) ts li co 0 hA
  have hvn := Box.fresh w 33 #[.slice none 0 0, .int .i64 0, .int .i64 0, .slice none 0 0, .slice none 0 0]
  have HB0 : Hid (Below w.heap.size w (w.alloc (.cells #[.slice none 0 0, .int .i64 0, .int .i64 0, .slice none 0 0, .slice none 0 0] 33))) := hB0
  generalize readL l = oo at HRL HRW ⊢
  clear hB0 hA hl hn hR
  have hmm := @run_makeMap Tryz.prog
  go_enter Tryz.func25, Tryz.ntmps25
  go_wp2_with fail
  refine hall.mono ?_
  rintro e w1 ⟨v, rfl, hrow, hb1⟩
  clear hall
  obtain ⟨va, vc, rfl⟩ := row_slice hrow
  have hv1 := hvn.next hb1
  have HB1 : Hid (Below w.heap.size w w1) := HB0.out.trans (hb1.mono HB0.out.size)
  have HV1 : Hid (Box w1 w.heap.size 33 #[.slice none 0 0, .int .i64 0, .int .i64 0, .slice none 0 0, .slice none 0 0]) := hv1
  have HR1 : Hid (Tok.Row w1 0 (.slice va ts.length vc) ts) := Tok.Row.le hrow (Nat.zero_le _)
  clear hvn hv1 hb1 HB0 hrow
  go_wp2_with fail
  have hbs1 := HB1.out.size
  have HBS : Hid (w.heap.size ≤ w1.heap.size) := hbs1
  have hBA : Below w1.heap.size w1 (w1.alloc (.cells #[.int .i64 li, .int .i64 co] 27)) := (Below.refl _ w1).alloc (Nat.le_refl _) _
  have hBH : Below (w1.alloc (.cells #[.int .i64 li, .int .i64 co] 27)).heap.size (w1.alloc (.cells #[.int .i64 li, .int .i64 co] 27)) (((w1.alloc (.cells #[.int .i64 li, .int .i64 co] 27)).alloc (.map #[] 0)).alloc (.cells #[.slice none 0 0, .int .i64 0, .int .i64 0, .slice none 0 0, .slice none 0 0, .map (some (w1.heap.size + 1)), .slice none 0 0, .bool false] 102)) := ((Below.refl _ (w1.alloc (.cells #[.int .i64 li, .int .i64 co] 27))).alloc (Nat.le_refl _) _).alloc (by simp) _
  have hBB := hBA.trans (hBH.mono hBA.size)
  have hH := Hall.fresh (w1.alloc (.cells #[.int .i64 li, .int .i64 co] 27))
  rw [World.size_alloc] at hH
  have HST : Hid (LSt w (((w1.alloc (.cells #[.int .i64 li, .int .i64 co] 27)).alloc (.map #[] 0)).alloc (.cells #[.slice none 0 0, .int .i64 0, .int .i64 0, .slice none 0 0, .slice none 0 0, .map (some (w1.heap.size + 1)), .slice none 0 0, .bool false] 102)) (w1.heap.size + 1) (w1.heap.size + 1 + 1) (w1.heap.size + 1) w.heap.size w1.heap.size li co (.slice va ts.length vc) ts 0 St.zero none 0 none 0 none 0 none 0 [] (((w1.alloc (.cells #[.int .i64 li, .int .i64 co] 27)).alloc (.map #[] 0)).alloc (.cells #[.slice none 0 0, .int .i64 0, .int .i64 0, .slice none 0 0, .slice none 0 0, .map (some (w1.heap.size + 1)), .slice none 0 0, .bool false] 102))) :=
    ⟨hH, Far.zero ts (li, co), OwnH.refl _ _, row_next HR1.out hBB, HV1.out.next hBB, (Box.fresh w1 _ _).next hBH⟩
  have HBW : Hid (Below w.heap.size w (((w1.alloc (.cells #[.int .i64 li, .int .i64 co] 27)).alloc (.map #[] 0)).alloc (.cells #[.slice none 0 0, .int .i64 0, .int .i64 0, .slice none 0 0, .slice none 0 0, .map (some (w1.heap.size + 1)), .slice none 0 0, .bool false] 102))) := HB1.out.trans (hBB.mono HB1.out.size)
  clear hBA hBH hBB hH HB1 HV1 HR1
  have hsz : (((w1.alloc (.cells #[.int .i64 li, .int .i64 co] 27)).alloc (.map #[] 0)).alloc (.cells #[.slice none 0 0, .int .i64 0, .int .i64 0, .slice none 0 0, .slice none 0 0, .map (some (w1.heap.size + 1)), .slice none 0 0, .bool false] 102)).heap.size = w1.heap.size + 1 + 1 + 1 := by simp
  have HSZ : Hid (w1.heap.size + 1 ≤ (((w1.alloc (.cells #[.int .i64 li, .int .i64 co] 27)).alloc (.map #[] 0)).alloc (.cells #[.slice none 0 0, .int .i64 0, .int .i64 0, .slice none 0 0, .slice none 0 0, .map (some (w1.heap.size + 1)), .slice none 0 0, .bool false] 102)).heap.size) := (by rw [hsz]; omega : w1.heap.size + 1 ≤ (((w1.alloc (.cells #[.int .i64 li, .int .i64 co] 27)).alloc (.map #[] 0)).alloc (.cells #[.slice none 0 0, .int .i64 0, .int .i64 0, .slice none 0 0, .slice none 0 0, .map (some (w1.heap.size + 1)), .slice none 0 0, .bool false] 102)).heap.size)
  clear hsz hbs1
  generalize (((w1.alloc (.cells #[.int .i64 li, .int .i64 co] 27)).alloc (.map #[] 0)).alloc (.cells #[.slice none 0 0, .int .i64 0, .int .i64 0, .slice none 0 0, .slice none 0 0, .map (some (w1.heap.size + 1)), .slice none 0 0, .bool false] 102)) = W at HST HBW HSZ ⊢
  generalize w1.heap.size = sb at HST HBS HSZ ⊢
  go_loopw [8, 9, 10, 11] (fun x _ _ _ wr => ∃ (a : Nat) (s : St) (az : Option Addr) (cs : Nat) (ak : Option Addr) (ck : Nat) (ap : Option Addr) (cp : Nat) (af : Option Addr) (cf : Nat) (fs : List Fact), a ≤ ts.length ∧ x = .int .i64 a ∧ Hid (LSt w W (sb + 1) (sb + 1 + 1) (sb + 1) w.heap.size sb li co (.slice va ts.length vc) ts a s az cs ak ck ap cp af cf fs wr)) (fun x _ _ _ _ => ts.length - (intOf x).toNat)
  case atStart => exact ⟨0, St.zero, none, 0, none, 0, none, 0, none, 0, [], Nat.zero_le _, rfl, HST⟩
  case round =>
    obtain ⟨a, s, az, cs, ak, ck, ap, cp, af, cf, fs, ha, rfl, HL⟩ := hrel
    by_cases hlt : a < ts.length
    · have hltz : (a : Int) < (ts.length : Int) := by omega
      rcases HL.out.row.toks with ⟨_, hnil⟩ | ⟨g, cap, hv, _, _, hcap, hcm, hT⟩
      · subst hnil; simp at hlt
      injection hv with hva _ hvc
      subst hva hvc
      have hcall := lineAt_any ts g 0 vc hlen hcap hcm a hlt li co wr hT
      obtain ⟨q, hq, hq1, hq2⟩ := lineNext_gt ts a hlt
      rw [hq] at hcall
      have HQ : Hid (Tok.lineNext ts a = (q : Int)) := hq
      have HLT : Hid (a < ts.length) := hlt
      have s0 := HL.out.sb.cell 0 _ rfl
      have s1 := HL.out.sb.cell 1 _ rfl
      have sl := HL.out.sb.lt
      clear hT hq hcap hcm hmm
      go_wp2_with fail
      refine hcall.mono ?_
      rintro e w2 ⟨v2, rfl, hrow2, hb2⟩
      clear hcall s0 s1 sl
      obtain ⟨xa, xc, rfl⟩ := row_slice hrow2
      have hBA : Below w2.heap.size w2 (w2.alloc (.cells #[.slice xa (Tok.lineTs ts a).length xc, .int .i64 (endL ts a (li, co)).1, .int .i64 (endL ts a (li, co)).2] 104)) := (Below.refl _ w2).alloc (Nat.le_refl _) _
      have hBB := hb2.trans (hBA.mono hb2.size)
      have hread := readLine_any (HL.out.hall.next hBB) (Tok.lineTs ts a) xa xc (row_next hrow2 hBA) (endL ts a (li, co)).1 (endL ts a (li, co)).2
      have HBB : Hid (Below wr.heap.size wr (w2.alloc (.cells #[.slice xa (Tok.lineTs ts a).length xc, .int .i64 (endL ts a (li, co)).1, .int .i64 (endL ts a (li, co)).2] 104))) := hBB
      clear hBA hBB hrow2 hb2
      generalize hol : lineL (Tok.lineTs ts a) ((endL ts a (li, co)).1, (endL ts a (li, co)).2) s = ol at hread
      have HOL : Hid (lineL (Tok.lineTs ts a) (endL ts a (li, co)) s = ol) := hol
      clear hol
      go_wp2_with fail
      refine hread.mono ?_
      intro e w4 hRT
      clear hread
      obtain ⟨hRT, hO⟩ := hRT
      have HO : Hid (OwnH (sb + 1) (w2.alloc (.cells #[.slice xa (Tok.lineTs ts a).length xc, .int .i64 (endL ts a (li, co)).1, .int .i64 (endL ts a (li, co)).2] 104)) w4) := hO
      have HOW : Hid (OwnH (sb + 1) W w4) := (HL.out.own.next HBB.out).trans hO
      have HRB : Hid (Box w4 w.heap.size 33 #[.slice none 0 0, .int .i64 0, .int .i64 0, .slice none 0 0, .slice none 0 0]) := hO.box (HL.out.rb.next HBB.out) (by decide)
      clear hO
      cases ol with
      | error p =>
        have he : e = .returned (wrongV 2 p.1 p.2) := hRT
        subst he
        have HE : Hid (oo = .error (2, p)) := HRL.out p (HL.out.far.bad HLT.out HOL.out)
        have vx := HRB.out
        have v0 := vx.cell 0 _ rfl
        have f0 := vx.frozen 0
        have v1 := vx.cell 1 _ rfl
        have f1 := vx.frozen 1
        have v2 := vx.cell 2 _ rfl
        have f2 := vx.frozen 2
        have v3 := vx.cell 3 _ rfl
        have f3 := vx.frozen 3
        have v4 := vx.cell 4 _ rfl
        have f4 := vx.frozen 4
        have vl := vx.lt
        clear vx
        clear hRT
        go_wp2_with fail
        refine bodyPost_ret (v := .tuple #[venZ, wrongV 2 p.1 p.2]) (by simp [results, Tryz.results25, go_sem, v0, v1, v2, v3, v4]) rfl ?_
        have hbw := HOW.out.lowly HBW.out (by have := HBS.out; omega) HSZ.out
        exact TextTo.bad HE.out (Below.setCell (Below.setCell (Below.setCell (Below.setCell (Below.setCell hbw (by simp) _) (by simp) _) (by simp) _) (by simp) _) (by simp) _)
      | ok s' =>
        obtain ⟨rfl, az2, cs2, ak2, ck2, ap2, cp2, af2, cf2, fs2, hH2⟩ := hRT
        have HL2 : Hid (LSt w W (sb + 1) (sb + 1 + 1) (sb + 1) w.heap.size sb li co (.slice (some ⟨g, 0, none⟩) ts.length vc) ts q s' az2 cs2 ak2 ck2 ap2 cp2 af2 cf2 fs2 w4) :=
          ⟨hH2, HL.out.far.step HLT.out HOL.out HQ.out, HOW.out, HO.out.row (row_next HL.out.row HBB.out) (by decide), HRB.out, HO.out.box (HL.out.sb.next HBB.out) (by decide)⟩
        clear hH2
        go_wp2_with fail
        go_roundw
        case rel => exact ⟨q, s', az2, cs2, ak2, ck2, ap2, cp2, af2, cf2, fs2, hq2, rfl, HL2⟩
        case measure => simp [intOf]; omega
    · have hltz : ¬ (a : Int) < (ts.length : Int) := by omega
      have hlin := HL.out.far.done hlt
      have HRO : Hid (oo = match wholeL s (li, co) with | .error p => .error (2, p) | .ok V => .ok V) := HRW.out s hlin
      have hwh := whole_any HL.out.hall li co
      have s0 := HL.out.sb.cell 0 _ rfl
      have s1 := HL.out.sb.cell 1 _ rfl
      have sl := HL.out.sb.lt
      generalize wholeL s (li, co) = ow at hwh HRO
      clear hlin hmm
      go_wp2_with fail
      refine hwh.mono ?_
      intro e w2 hWT
      clear hwh s0 s1 sl
      obtain ⟨hWT, hO⟩ := hWT
      have HOW : Hid (OwnH (sb + 1) W w2) := HL.out.own.trans hO
      have HRB : Hid (Box w2 w.heap.size 33 #[.slice none 0 0, .int .i64 0, .int .i64 0, .slice none 0 0, .slice none 0 0]) := hO.box HL.out.rb (by decide)
      clear hO
      cases ow with
      | error p =>
        have he : e = .returned (.tuple #[venZ, wrongV 2 p.1 p.2]) := hWT
        subst he
        have HE : Hid (oo = .error (2, p)) := HRO.out
        have vx := HRB.out
        have v0 := vx.cell 0 _ rfl
        have f0 := vx.frozen 0
        have v1 := vx.cell 1 _ rfl
        have f1 := vx.frozen 1
        have v2 := vx.cell 2 _ rfl
        have f2 := vx.frozen 2
        have v3 := vx.cell 3 _ rfl
        have f3 := vx.frozen 3
        have v4 := vx.cell 4 _ rfl
        have f4 := vx.frozen 4
        have vl := vx.lt
        clear vx
        clear hWT
        go_wp2_with fail
        refine bodyPost_ret (v := .tuple #[venZ, wrongV 2 p.1 p.2]) (by simp [results, Tryz.results25, go_sem, v0, v1, v2, v3, v4]) rfl ?_
        have hbw := HOW.out.lowly HBW.out (by have := HBS.out; omega) HSZ.out
        exact TextTo.bad HE.out (Below.setCell (Below.setCell (Below.setCell (Below.setCell (Below.setCell hbw (by simp) _) (by simp) _) (by simp) _) (by simp) _) (by simp) _)
      | ok V =>
        obtain ⟨r, hN, hR⟩ := hWT
        have HE : Hid (oo = .ok V) := HRO.out
        have HN : Hid (NormTo V r) := hN
        have vx := HRB.out
        have v0 := vx.cell 0 _ rfl
        have f0 := vx.frozen 0
        have v1 := vx.cell 1 _ rfl
        have f1 := vx.frozen 1
        have v2 := vx.cell 2 _ rfl
        have f2 := vx.frozen 2
        have v3 := vx.cell 3 _ rfl
        have f3 := vx.frozen 3
        have v4 := vx.cell 4 _ rfl
        have f4 := vx.frozen 4
        have vl := vx.lt
        clear vx
        clear hN
        cases r with
        | none =>
          have he : e = .returned (.tuple #[venZ, wrongV 2 li co]) := hR
          subst he
          clear hR
          go_wp2_with fail
          refine bodyPost_ret (v := .tuple #[venZ, wrongV 2 li co]) (by simp [results, Tryz.results25, go_sem, v0, v1, v2, v3, v4]) rfl ?_
          have hbw := HOW.out.lowly HBW.out (by have := HBS.out; omega) HSZ.out
          rw [HE.out]
          exact ⟨⟨li, co, none, HN.out, rfl⟩, (Below.setCell (Below.setCell (Below.setCell (Below.setCell (Below.setCell hbw (by simp) _) (by simp) _) (by simp) _) (by simp) _) (by simp) _)⟩
        | some U =>
          obtain ⟨p1, m1, d1, p2, m2, d2, p3, m3, d3, rfl, hU⟩ := hR
          have HU : Hid (VenOwn w2 p1 m1 d1 p2 m2 d2 p3 m3 d3 U) := hU
          clear hU
          go_wp2_with fail
          refine bodyPost_ret (v := .tuple #[venV p1 m1 d1 U.gap U.radius p2 m2 d2 p3 m3 d3, .nilIface]) (by simp [results, Tryz.results25, go_sem, v0, v1, v2, v3, v4]) rfl ?_
          have hbw := HOW.out.lowly HBW.out (by have := HBS.out; omega) HSZ.out
          rw [HE.out]
          have x0 := HRB.out
          have u0 := HU.out
          have x1 := x0.set 0 (.slice p1 m1 d1)
          have u1 := u0.set x0 (by decide) (by decide) (by decide) 0 (.slice p1 m1 d1)
          have x2 := x1.set 1 (.int .i64 U.gap)
          have u2 := u1.set x1 (by decide) (by decide) (by decide) 1 (.int .i64 U.gap)
          have x3 := x2.set 2 (.int .i64 U.radius)
          have u3 := u2.set x2 (by decide) (by decide) (by decide) 2 (.int .i64 U.radius)
          have x4 := x3.set 3 (.slice p2 m2 d2)
          have u4 := u3.set x3 (by decide) (by decide) (by decide) 3 (.slice p2 m2 d2)
          have u5 := u4.set x4 (by decide) (by decide) (by decide) 4 (.slice p3 m3 d3)
          exact ⟨⟨li, co, some U, HN.out, p1, m1, d1, p2, m2, d2, p3, m3, d3, rfl, u5⟩, (Below.setCell (Below.setCell (Below.setCell (Below.setCell (Below.setCell hbw (by simp) _) (by simp) _) (by simp) _) (by simp) _) (by simp) _)⟩
theorem read_any (l : List UInt8) (w : World) (hR : Tok.Rng w) :
    Calls Tryz.prog 25 #[.string ⟨l.toArray⟩] w fun e w' => TextTo w (readL l) e w' := by
  have hB0 : Below w.heap.size w (w.alloc (.cells #[.slice none 0 0, .int .i64 0, .int .i64 0, .slice none 0 0, .slice none 0 0] 33)) := (Below.refl _ w).alloc (Nat.le_refl _) _
  by_cases hl : 1048576 < l.length
  · exact read_code l w 0 0 3 (by decide) _ (readL_large hl) ((all_large l hl _).mono fun e w' ⟨he, hb⟩ => ⟨⟨none, 0, 0, he⟩, hb⟩)
  · obtain ⟨⟨ts, li, co, code⟩, hA⟩ : ∃ r, Tok.allOf l = r := ⟨_, rfl⟩
    by_cases hc : code = 0
    · subst hc
      exact read_lines l (by omega) w hR ts li co hA
    · refine read_code l w li co code hc _ (readL_bad hl hA hc) ((Tok.all_any l (by omega) _ (hR.next hB0) ts li co code hA).mono ?_)
      rintro e w' ⟨v, rfl, hrow, hb⟩
      obtain ⟨a, c, rfl⟩ := row_slice hrow
      exact ⟨⟨_, _, _, rfl⟩, hb⟩
end Go.Proofs.YtpkjhlcolgoknaaGreatDoor.Par
