/- slices.Index, slices.Contains at ints, by contracts; (*hall).kill by its contract; (*hall).whole by its contract; parse.read by its contract; parterreref2.Parse of a text whose tokens are wrong; The document's parser while Parse puts its kills to their seats: the kills' own row grows behind all that was there; parterreref2.Parse of a text whose tokens are well: its lines; A text read line by line: plain facts; A venue that was read may be, once it is sorted; errors.As at the target *wrong of package parse, by contracts; parse.ask, parse.toFault, parse.Check, parse.Venue by their contracts; parse.toFault, parse.Venue by their contracts; What the texts that told reads come to; parterrelaw4.told answers true; Where a text is read wrongly: a code, a place within the text (no program in it); What the rows' conditions give the walks: strconv.ErrRange holds an error; the type's handle; What the templates of print and of the document's own printer have in common; parterrelaw4.Text by its contract: some text; what a text that is read wrongly has for a code; What is read, whatever it is, may be; ParseAsks answers true: its walk. -/
import Derived.Test.YtgpkdjhllekihaaGreatDoorYc
import Derived.Test.YtgpkdjhllekihaaGreatDoorYa
import Derived.Test.YtgpkdjhllekihaaGreatDoorTLinesP
import Derived.Test.YtgpkdjhllekihaaGreatDoorTRefL
import Derived.Test.YtgpkdjhllekihaaGreatDoorYb
import Derived.Test.YtgpkdjhllekihaaGreatDoorVBox
import Derived.WalkKit
import Derived.LaidEql
import Derived.Stop.Asserts
import Derived.RowKitTokens
import Derived.Test.YtgpkdjhllekihaaGreatDoorFNew
import Derived.Deep.RegionWith
import Derived.Test.YtgpkdjhllekihaaGreatDoorFSpotC
import Derived.Test.YtgpkdjhllekihaaGreatDoorVRSeats
import Derived.Test.YtgpkdjhllekihaaGreatDoorRows
import Derived.Stop.LaidErr
import Derived.ChangeSame
import Derived.ChangeVars
import Derived.JoinedOf
import Derived.RowKit
import Derived.LaidLaws
import Derived.LaidHandle
import Derived.LaidOnce
import Derived.LaidMore
import Derived.Stop.Joined
import Derived.ProofKit
import Derived.OpenShut
import Derived.Test.YtgpkdjhllekihaaGreatDoorVSl
import Derived.Test.YtgpkdjhllekihaaGreatDoorVInv
import Derived.Lib.FrozenHead
import Derived.StillTailTactics
import Derived.Test.YtgpkdjhllekihaaGreatDoorTText
import Derived.Test.YtgpkdjhllekihaaGreatDoorFCodeC
namespace Go.Proofs.YtgpkdjhllekihaaGreatDoor.Par
set_option linter.unusedVariables false
set_option maxRecDepth 100000
open Go.RowKit Go.Shelf
open Go.Proofs.YtgpkdjhllekihaaGreatDoor.Ven (Sl Cells intC ret_bool ret_int)

/-- Where a number stands first; -1. -/
def idxI (l : List Int) (x : Int) : Int := match l.findIdx? (fun y => y == x) with | some i => i | none => -1
theorem idxI_hit (l : List Int) (x : Int) (k : Nat) (hk : k < l.length) (h : l[k] = x) (hb : ∀ j (hj : j < l.length), j < k → ¬ l[j] = x) : idxI l x = k := by
 have : l.findIdx? (fun y => y == x) = some k := by
  rw [List.findIdx?_eq_some_iff_getElem]
  exact ⟨hk, by simpa using h, fun j hj => by simpa using hb j (by omega) hj⟩
 unfold idxI; rw [this]
theorem idxI_none (l : List Int) (x : Int) (hb : ∀ j (hj : j < l.length), ¬ l[j] = x) : idxI l x = -1 := by
 have : l.findIdx? (fun y => y == x) = none := by
  rw [List.findIdx?_eq_none_iff]
  intro y hy
  obtain ⟨j, hj, rfl⟩ := List.getElem_of_mem hy
  simpa using hb j hj
 unfold idxI; rw [this]
theorem idxI_mem (l : List Int) (x : Int) : decide (0 ≤ idxI l x) = decide (x ∈ l) := by
 unfold idxI
 cases h : l.findIdx? (fun y => y == x) with
 | none =>
  rw [List.findIdx?_eq_none_iff] at h
  have : x ∉ l := fun hx => by have := h x hx; simp at this
  simp [this]
 | some i =>
  rw [List.findIdx?_eq_some_iff_getElem] at h
  obtain ⟨hi, h2, _⟩ := h
  have : x ∈ l := by
   have e : l[i] = x := by simpa using h2
   rw [← e]; exact List.getElem_mem hi
  simp [this]
set_option maxHeartbeats 1000000 in
theorem index_any (l : List Int) (x : Int) (a : Option Addr) (c : Nat) (w : World) (hS : Sl 1 intC w (.slice a l.length c) l) :
  Calls Tryz.prog 93 #[.slice a l.length c, .int .i64 x] w fun e w' => e = .returned (.int .i64 (idxI l x)) ∧ w' = w := by
 have hmx := hS.max
 have HS : Hid (Sl 1 intC w (.slice a l.length c) l) := hS
 clear hS
 go_enter Tryz.func93, Tryz.ntmps93
 go_wp2
 go_loopw [5, 8] (fun _ i wr => ∃ k : Nat, w = wr ∧ k ≤ l.length ∧ i = .int .i64 k ∧ Hid (∀ j (hj : j < l.length), j < k → ¬ l[j] = x)) (fun _ i _ => l.length - (intOf i).toNat)
 case atStart => exact ⟨0, rfl, Nat.zero_le _, rfl, by intro j hj h; omega⟩
 case round =>
  obtain ⟨k, rfl, hk, rfl, HA⟩ := hrel
  by_cases hlt : k < l.length
  ·have hltz : (k : Int) < (l.length : Int) := by omega
   obtain ⟨b, off, rfl, hC⟩ := Ven.cells_of_pos HS.out hlt
   have c0 := hC.2 k hlt 0 _ rfl
   have hb := hC.1
   generalize hy : l[k] = y at c0
   have HY : Hid (l[k] = y) := hy
   simp only [Nat.mul_one, Nat.add_zero] at c0
   clear hy hC
   by_cases h1 : x = y
   ·have h1' : (x == y) = true := by simpa using h1
    have HK : Hid (idxI l x = k) := idxI_hit l x k hlt (by rw [HY.out]; exact h1.symm) HA.out
    clear h1
    go_wp2
    go_ret
    exact ⟨ret_int HK.out.symm, rfl⟩
   ·have h1' : (x == y) = false := by simpa using h1
    have HN : Hid (¬ l[k] = x) := by
     show ¬ l[k] = x
     rw [HY.out]; exact fun h => h1 h.symm
    clear h1
    go_wp2
    go_roundw
    case rel =>
     refine ⟨k + 1, by simp, by omega, by go_num, ?_⟩
     show ∀ j (hj : j < l.length), j < k + 1 → ¬ l[j] = x
     intro j hj h
     rcases Nat.lt_or_ge j k with h' | h'
     ·exact HA.out j hj h'
     ·have e : j = k := by omega
      subst e; exact HN.out
    case measure => simp [intOf]; omega
  ·have hltz : ¬ (k : Int) < (l.length : Int) := by omega
   have HK : Hid (idxI l x = -1) := idxI_none l x (fun j hj => HA.out j hj (by omega))
   go_wp2
   go_ret
   exact ⟨ret_int HK.out.symm, rfl⟩
theorem contains_any (l : List Int) (x : Int) (a : Option Addr) (c : Nat) (w : World) (hS : Sl 1 intC w (.slice a l.length c) l) :
  Calls Tryz.prog 73 #[.slice a l.length c, .int .i64 x] w fun e w' => e = .returned (.bool (decide (x ∈ l))) ∧ w' = w := by
 have hm := idxI_mem l x
 have hi := index_any l x a c w hS
 generalize idxI l x = n at hi hm
 generalize decide (x ∈ l) = bb at hm ⊢
 clear hS
 go_enter Tryz.func73, Tryz.ntmps73
 go_wp2_with fail
 refine hi.mono ?_
 rintro e w1 ⟨rfl, rfl⟩
 go_wp2
 go_ret
 exact ⟨rfl, rfl⟩
end Go.Proofs.YtgpkdjhllekihaaGreatDoor.Par

namespace Go.Proofs.YtgpkdjhllekihaaGreatDoor.Par
set_option linter.unusedVariables false
set_option maxRecDepth 100000
open Go.RowKit Go.Shelf Go.Maps
open Go.Proofs.YtgpkdjhllekihaaGreatDoor.Ven (Seat Pole Ven seatC poleC intC Box row_next row_same row_grown row_setCell row_low rows_apart row_slice ret_bool info3 BelowOf wp_region_quiet_below mixed row_sl Sl)
open Go.Proofs.YtgpkdjhllekihaaGreatDoor.Prs (atI wordK kindL letsK)

variable {w : World} {base hb : Nat} {az : Option Addr} {cs : Nat} {ak : Option Addr} {ck : Nat} {ap : Option Addr} {cp mb : Nat} {af : Option Addr} {cf : Nat} {s : St} {K : List Int} {fs : List Fact}
/-- What kill leaves. -/
def KillTo (w : World) (base hb : Nat) (az : Option Addr) (cs : Nat) (ap : Option Addr) (cp mb : Nat) (af : Option Addr) (cf : Nat) (s : St) (K : List Int) (fs : List Fact) (kl : Kill) (e : Ending) (w' : World) : Prop :=
 (if atI s.seats kl.row kl.x < 0 then e = .returned (wrongV 2 kl.first.1 kl.first.2) else if atI s.seats kl.row kl.x ∈ K then e = .returned (wrongV 2 kl.word.1 kl.word.2)
  else e = .returned .nilIface ∧ ∃ ak ck, Hall w' base hb az cs ak ck ap cp mb af cf s (K ++ [atI s.seats kl.row kl.x]) fs) ∧ OwnH base w w'
theorem intC_len : ∀ x : Int, (intC x).length = 1 := fun _ => rfl
set_option maxHeartbeats 4000000 in
theorem kill_any (h : Hall w base hb az cs ak ck ap cp mb af cf s K fs) (tk tn tl tc : Int) (tt : List UInt8) (rest : List T) (g cap : Nat) (r x : Int) (fl fc : Int) (hf : FactIs w ⟨(tk, tn, tl, tc, tt), rest, g, cap⟩ ⟨r, x, (tl, tc), (fl, fc)⟩) (hK : K.length < 200) :
  Calls Tryz.prog 48 #[.pointer (some ⟨hb, 0, none⟩), factV tk tn tl tc tt (.slice (restA g cap) rest.length (cap - 1))] w fun e w' => KillTo w base hb az cs ap cp mb af cf s K fs ⟨r, x, (tl, tc), (fl, fc)⟩ e w' := by
 obtain ⟨hrow, h2, hkill, hwr, hwx⟩ := hf
 obtain ⟨hT, hc1, hc2⟩ := hrow.toks
 have hT1 : Tok.Toks w g 5 rest := hT.drop 1
 have h2' : rest.length = 2 := h2
 have hra : restA g cap = some ⟨g, 5, none⟩ := by unfold restA; rw [if_neg (show ¬ cap = 1 by have : rest.length + 1 ≤ cap := hc1; omega)]
 rw [hra]
 injection hkill with k1 k2 k3 k4
 have hn0 : nOf rest 0 = r := k1.symm
 have hn1 : nOf rest 1 = x := k2.symm
 have hs0 : spotT (rest[0]!) = (fl, fc) := k4.symm
 obtain ⟨i0, hi, hz0, hz1, hz2⟩ := info3
 have hB : Below w.heap.size w (w.alloc (.cells #[.int .i64 tk, .int .i64 tn, .int .i64 tl, .int .i64 tc, .string ⟨tt.toArray⟩, .slice (some ⟨g, 5, none⟩) rest.length (cap - 1)] 103)) := (Below.refl _ w).alloc (Nat.le_refl _) _
 have hfb := Box.fresh w 103 #[.int .i64 tk, .int .i64 tn, .int .i64 tl, .int .i64 tc, .string ⟨tt.toArray⟩, .slice (some ⟨g, 5, none⟩) rest.length (cap - 1)]
 have hHW := h.next hB
 have hTW := hT1.next hB
 obtain ⟨c, hc, hlook⟩ := hHW.look hwr hwx
 have hg := atI_ge s.seats r x
 generalize hat : atI s.seats r x = at_ at hc hlook hg
 have HAT : Hid (atI s.seats r x = at_) := hat
 have HH : Hid (Hall w base hb az cs ak ck ap cp mb af cf s K fs) := h
 have HKL : Hid (K.length < 200) := hK
 have HHB : Hid (Below w.heap.size w (w.alloc (.cells #[.int .i64 tk, .int .i64 tn, .int .i64 tl, .int .i64 tc, .string ⟨tt.toArray⟩, .slice (some ⟨g, 5, none⟩) rest.length (cap - 1)] 103))) := hB
 have H2 : Hid (rest.length = 2) := h2'
 have HR2 : Hid (0 < rest.length) := (by omega : 0 < rest.length)
 clear hrow hT hT1 k1 k2 k3 k4 hat h hK hc1 hc2 hwr hwx h2 h2' hB hra
 go_enter Tryz.func48, Tryz.ntmps48
 go_wp2_with fail
 have HBW : Hid (Below w.heap.size w (w.alloc (.cells #[.int .i64 tk, .int .i64 tn, .int .i64 tl, .int .i64 tc, .string ⟨tt.toArray⟩, .slice (some ⟨g, 5, none⟩) rest.length (cap - 1)] 103))) := HHB.out
 generalize w.alloc (.cells #[.int .i64 tk, .int .i64 tn, .int .i64 tl, .int .i64 tc, .string ⟨tt.toArray⟩, .slice (some ⟨g, 5, none⟩) rest.length (cap - 1)] 103) = W at hfb hHW hTW hlook HBW ⊢
 generalize w.heap.size = fb at hfb ⊢
 have HN : Hid (∀ p : BelowOf W, ∀ i : Nat, i < 2 → ∀ n, nOf rest i = n → Calls Tryz.prog 72 #[factV tk tn tl tc tt (.slice (some ⟨g, 5, none⟩) rest.length (cap - 1)), .int .i64 i] p.w fun e w' => e = .returned (.int .i64 n) ∧ Below p.w.heap.size p.w w') := fun p i hi n hn => by
  have h2 := H2.out
  exact number_any tk tn tl tc tt g 5 (cap - 1) rest i (by omega) n (by subst hn; unfold nOf; rw [getElem!_pos rest i (by omega)]) p.w (hTW.next p.h) (by unfold maxLen; omega)
 have HHW : Hid (Hall W base hb az cs ak ck ap cp mb af cf s K fs) := hHW
 have HTW : Hid (Tok.Toks W g 5 rest) := hTW
 have HFB : Hid (Box W fb 103 #[.int .i64 tk, .int .i64 tn, .int .i64 tl, .int .i64 tc, .string ⟨tt.toArray⟩, .slice (some ⟨g, 5, none⟩) rest.length (cap - 1)]) := hfb
 have hne : Nonempty (BelowOf W) := ⟨⟨W, Below.refl _ W⟩⟩
 have d5 := fun p : BelowOf W => (HHW.out.next p.h).box.cell 5 _ rfl
 have e0 := fun p : BelowOf W => (HFB.out.next p.h).cell 0 _ rfl
 have e1 := fun p : BelowOf W => (HFB.out.next p.h).cell 1 _ rfl
 have e2 := fun p : BelowOf W => (HFB.out.next p.h).cell 2 _ rfl
 have e3 := fun p : BelowOf W => (HFB.out.next p.h).cell 3 _ rfl
 have e4 := fun p : BelowOf W => (HFB.out.next p.h).cell 4 _ rfl
 have e5 := fun p : BelowOf W => (HFB.out.next p.h).cell 5 _ rfl
 generalize hbb : decide (0 ≤ at_) = bb at hlook
 have HBBB : Hid (decide (0 ≤ at_) = bb) := hbb
 have HC : Hid (0 ≤ at_ → c = at_) := hc
 have HL : Hid (∀ w', (∃ p : BelowOf W, w' = p.w) → (Instr.lookup 77 (.map (some mb)) (placeV r x) true).run Tryz.prog w' = .ok (.tuple #[.int .i64 c, .bool bb]) w') := fun w' ⟨p, hp⟩ => by subst hp; exact hlook p.w p.h
 have HNR : Hid (nOf rest 0 = r) := hn0
 have HNX : Hid (nOf rest 1 = x) := hn1
 clear hlook hbb hc hHW hTW hfb hn0 hn1
 generalize rest.length = rl at HN e5 HFB H2 HHB ⊢
 refine wp_region_quiet_below mixed (by kernel_rfl) ?_
 repeat (first | (refine wpQuiet_look rfl (.tmp 11) (.tmp 16) 77 rfl mb (placeV r x) _ rfl rfl HL.out ?_; simp only [Act.put, List.setIfInBounds_toArray, List.set_cons_succ, List.set_cons_zero]) | (go_big_quiet_step ((first | (go_at_call_of 72 (Value.int IntKind.i64 0); exact Ven.Calls.below_of (HN.out _ 0 (by omega) r HNR.out)) | (go_at_call_of 72 (Value.int IntKind.i64 1); exact Ven.Calls.below_of (HN.out _ 1 (by omega) x HNX.out))))))
 refine wpQuiet_nil ?_
 rintro _ ⟨p, rfl⟩
 have HB4 : Hid (Below w.heap.size w p.w) := HBW.out.trans (p.h.mono HBW.out.size)
 have HH4 : Hid (Hall p.w base hb az cs ak ck ap cp mb af cf s K fs) := HHW.out.next p.h
 have HT4 : Hid (Tok.Toks p.w g 5 rest) := HTW.out.next p.h
 have HF4 : Hid (Box p.w fb 103 #[.int .i64 tk, .int .i64 tn, .int .i64 tl, .int .i64 tc, .string ⟨tt.toArray⟩, .slice (some ⟨g, 5, none⟩) rl (cap - 1)]) := HFB.out.next p.h
 clear d5 e0 e1 e2 e3 e4 e5 HL HHW HBW HTW HFB hne HN HNR HNX HHB
 generalize p.w = W4 at HB4 HH4 HT4 HF4 ⊢
 clear p
 cases bb
 ·have h0 := of_decide_eq_false HBBB.out
  have HN0 : Hid (at_ < 0) := (by omega : at_ < 0)
  have ta := HT4.out.at 0 HR2.out
  rw [getElem!_pos rest 0 HR2.out] at hs0
  generalize rest[0]'HR2.out = t0 at hs0 ta
  obtain ⟨fk, fn, fl', fc', ft⟩ := t0
  obtain ⟨rfl, rfl⟩ : fl' = fl ∧ fc' = fc := by
   simp only [spotT, Prod.mk.injEq] at hs0; exact hs0
  obtain ⟨c0, c1, c2, c3, c4⟩ := ta
  simp only [Nat.zero_mul, Nat.add_zero, Nat.reduceAdd] at c0 c1 c2 c3 c4
  have g5 := HF4.out.cell 5 _ rfl
  have gl := HF4.out.lt
  have tl4 := HT4.out.1
  have hrl : (0 : Int) < (rl : Int) := by have := H2.out; omega
  have h2z : rl = 2 := H2.out
  clear hs0 h0 HBBB HC hg
  go_wp2_with fail
  refine (wrongToken_any fk fn fl' fc' ft _).mono ?_
  rintro e w5 ⟨rfl, hb5⟩
  go_wp2
  go_ret
  unfold KillTo
  rw [HAT.out, if_pos HN0.out]
  exact ⟨rfl, OwnH.of_below (HB4.out.trans (hb5.mono HB4.out.size))⟩
 ·have h0 := of_decide_eq_true HBBB.out
  have hca := HC.out h0
  subst hca
  have HN0 : Hid (0 ≤ c) := h0
  have b4 := HH4.out.box
  have q3 := b4.cell 3 _ rfl
  have ql := b4.lt
  have hcon := contains_any K c ak ck W4 (row_sl intC_len HH4.out.ko)
  generalize hcd : decide (c ∈ K) = b2 at hcon
  have HCD : Hid (decide (c ∈ K) = b2) := hcd
  clear h0 HBBB HC hg b4 hcd
  go_wp2_with fail
  refine hcon.mono ?_
  rintro e w5 ⟨rfl, rfl⟩
  clear hcon
  cases b2
  ·have hnot := of_decide_eq_false HCD.out
   have HNOT : Hid (¬ c ∈ K) := hnot
   clear hnot HCD
   have hlK := HKL.out
   have HX : Hid (Hall (w5.alloc (.cells #[.int .i64 c] 3)) base hb az cs ak ck ap cp mb af cf s K fs) := HH4.out.next ((Below.refl _ w5).alloc (Nat.le_refl _) _)
   go_wp2_with (at_builtin; refine wpList_append_own _ rfl _ _ 22 rfl base 3 i0 (.int .i64 0) 1 8 Tryz.underlying22 hi hz0 hz1 hz2 rfl (by omega) _ _ _ rfl HX.out.ko ⟨w5.heap.size, 0, none⟩ 1 1 [.int .i64 c] rfl ?qc1 ?qc2 ?qc3 ?qc4 ?qc5 ?qc6 ?_)
   case qc1 => rfl
   case qc2 =>
    intro j u hj
    rw [Addr.add_lit, Nat.zero_add, World.cell?_alloc_at _ _ _ _ rfl]
    show [Value.int .i64 c].toArray[j]? = some u
    rw [List.getElem?_toArray]; exact hj
   case qc3 => intro u hu; simp at hu; subst hu; rfl
   case qc4 => unfold maxLen; omega
   case qc5 => omega
   case qc6 => exact HX.out.hbase
   intro v6 w6 hown6 hgr6 _
   obtain ⟨ak2, ck2, rfl⟩ := row_slice hown6
   have hu6 := HX.out.box.grown hgr6 (HX.out.box.not_row (by decide) HX.out.ko)
   have y3 := hu6.cell 3 _ rfl
   have yf := hu6.frozen 3
   have yl := hu6.lt
   have hd := HX.out.dead c hlK hown6 hgr6
   have HD : Hid (Hall (w6.setCell ⟨hb, 3, none⟩ (.slice ak2 (K.length + 1) ck2)) base hb az cs ak2 ck2 ap cp mb af cf s (K ++ [c]) fs ∧ OwnH base w (w6.setCell ⟨hb, 3, none⟩ (.slice ak2 (K.length + 1) ck2))) := ⟨hd.1, ((OwnH.of_below HB4.out).trans (OwnH.of_below ((Below.refl _ w5).alloc (Nat.le_refl _) _))).trans hd.2⟩
   clear hd hown6 hgr6 hu6 q3 ql
   go_wp2
   go_ret
   unfold KillTo
   rw [HAT.out, if_neg (Int.not_lt.2 HN0.out), if_neg HNOT.out]
   exact ⟨⟨rfl, ak2, ck2, HD.out.1⟩, HD.out.2⟩
  ·have hin := of_decide_eq_true HCD.out
   have HIN : Hid (c ∈ K) := hin
   clear hin HCD
   have g0 := HF4.out.cell 0 _ rfl
   have g1 := HF4.out.cell 1 _ rfl
   have g2 := HF4.out.cell 2 _ rfl
   have g3 := HF4.out.cell 3 _ rfl
   have g4 := HF4.out.cell 4 _ rfl
   have gl := HF4.out.lt
   go_wp2_with fail
   refine (wrongToken_any tk tn tl tc tt _).mono ?_
   rintro e w7 ⟨rfl, hb5⟩
   go_wp2
   go_ret
   unfold KillTo
   rw [HAT.out, if_neg (Int.not_lt.2 HN0.out), if_pos HIN.out]
   exact ⟨rfl, OwnH.of_below (HB4.out.trans (hb5.mono HB4.out.size))⟩
end Go.Proofs.YtgpkdjhllekihaaGreatDoor.Par

namespace Go.Proofs.YtgpkdjhllekihaaGreatDoor.Par
set_option linter.unusedVariables false
set_option maxRecDepth 100000
open Go.RowKit Go.Shelf Go.Maps
open Go.Proofs.YtgpkdjhllekihaaGreatDoor.Ven (Seat Pole Ven seatC poleC intC Box row_sl Sl venV venZ VenAt VenOwn NormTo NormOwn norm_own seatC_len poleC_len)
open Go.Proofs.YtgpkdjhllekihaaGreatDoor.Prs (atI wordK kindL letsK)

theorem OwnH.setNew {base : Nat} {W W' : World} (h : OwnH base W W') {b : Nat} (hb : W.heap.size ≤ b) (i : Nat) (v : Value) : OwnH base W (W'.setCell ⟨b, i, none⟩ v) :=
 ⟨h.os, h.tape, h.output, by simpa using h.size, fun k hk hl => by rw [Below.heap_setCell W' _ v k (show k ≠ b by omega)]; exact h.low k hk hl,
  fun k cs t z hk ht => by
   have hlt := (Array.getElem?_eq_some_iff.1 hk).1
   rw [Below.heap_setCell W' _ v k (show k ≠ b by omega)]; exact h.block k cs t z hk ht⟩
theorem OwnH.next {base : Nat} {W W' W'' : World} (h : OwnH base W W') (hb : Below W'.heap.size W' W'') : OwnH base W W'' := h.trans (OwnH.of_below hb)
variable {w : World} {base hb : Nat} {az : Option Addr} {cs : Nat} {ak : Option Addr} {ck : Nat} {ap : Option Addr} {cp mb : Nat} {af : Option Addr} {cf : Nat} {s : St} {K : List Int} {fs : List Fact}
theorem Hall.ven (h : Hall w base hb az cs ak ck ap cp mb af cf s K fs) : VenAt w az s.seats.length cs ak K.length ck ap s.poles.length cp ⟨s.seats, s.gap, s.radius, K, s.poles⟩ :=
 ⟨row_sl seatC_len h.so, row_sl intC_len h.ko, row_sl poleC_len h.po⟩
/-- How a venue, or an error, is handed back: 'none': it could not be sorted. -/
def Handed (li co : Int) (V : Ven) (e : Ending) (w' : World) : Prop := ∃ r, NormTo V r ∧ match r with
 | none => e = .returned (.tuple #[venZ, wrongV 2 li co])
 | some U => ∃ b1 m1 d1 b2 m2 d2 b3 m3 d3, e = .returned (.tuple #[venV b1 m1 d1 U.gap U.radius b2 m2 d2 b3 m3 d3, .nilIface]) ∧ VenOwn w' b1 m1 d1 b2 m2 d2 b3 m3 d3 U
def WholeTo (w : World) (base : Nat) (li co : Int) (o : Except (Int × Int) Ven) (e : Ending) (w' : World) : Prop :=
 (match o with
 | .error p => e = .returned (.tuple #[venZ, wrongV 2 p.1 p.2])
 | .ok V => Handed li co V e w') ∧ OwnH base w w'
theorem WholeTo.bad {w : World} {base : Nat} {li co : Int} {o : Except (Int × Int) Ven} {p : Int × Int} {w' : World} (ho : o = .error p) (h : OwnH base w w') : WholeTo w base li co o (.returned (.tuple #[venZ, wrongV 2 p.1 p.2])) w' := by subst ho; exact ⟨rfl, h⟩
theorem wholeL_none {s : St} {e : Int × Int} (h : s.seats = [] ∨ s.gap = 0) : wholeL s e = .error e := by unfold wholeL; rw [if_pos h]
theorem wholeL_kills {s : St} {e p : Int × Int} (h : ¬ (s.seats = [] ∨ s.gap = 0)) (hk : killsL s.seats s.kills [] = .error p) : wholeL s e = .error p := by unfold wholeL; rw [if_neg h, hk]
theorem wholeL_ok {s : St} {e : Int × Int} {K : List Int} (h : ¬ (s.seats = [] ∨ s.gap = 0)) (hk : killsL s.seats s.kills [] = .ok K) : wholeL s e = .ok ⟨s.seats, s.gap, s.radius, K, s.poles⟩ := by unfold wholeL; rw [if_neg h, hk]
theorem killsL_at {S : List Seat} {ks : List Kill} {acc K : List Int} {i : Nat} (h : killsL S ks acc = killsL S (ks.drop i) K) (hi : i < ks.length) : killsL S ks acc = if atI S ks[i].row ks[i].x < 0 then .error ks[i].first else if atI S ks[i].row ks[i].x ∈ K then .error ks[i].word else killsL S (ks.drop (i + 1)) (K ++ [atI S ks[i].row ks[i].x]) := by
 rw [h, List.drop_eq_getElem_cons hi]; rfl
set_option maxHeartbeats 4000000 in
theorem whole_any (h : Hall w base hb az cs ak ck ap cp mb af cf s [] fs) (li co : Int) :
  Calls Tryz.prog 27 #[.pointer (some ⟨hb, 0, none⟩), .agg #[.int .i64 li, .int .i64 co]] w fun e w' => WholeTo w base li co (wholeL s (li, co)) e w' := by
 have hbW : Below w.heap.size w ((w.alloc (.cells #[.int .i64 li, .int .i64 co] 27)).alloc (.cells #[.slice none 0 0, .int .i64 0, .int .i64 0, .slice none 0 0, .slice none 0 0] 33)) := ((Below.refl _ w).alloc (Nat.le_refl _) _).alloc (by simp) _
 have hsp : Box ((w.alloc (.cells #[.int .i64 li, .int .i64 co] 27)).alloc (.cells #[.slice none 0 0, .int .i64 0, .int .i64 0, .slice none 0 0, .slice none 0 0] 33)) w.heap.size 27 #[.int .i64 li, .int .i64 co] := (Box.fresh w _ _).next ((Below.refl _ _).alloc (Nat.le_refl _) _)
 have hvn : Box ((w.alloc (.cells #[.int .i64 li, .int .i64 co] 27)).alloc (.cells #[.slice none 0 0, .int .i64 0, .int .i64 0, .slice none 0 0, .slice none 0 0] 33)) (w.heap.size + 1) 33 #[.slice none 0 0, .int .i64 0, .int .i64 0, .slice none 0 0, .slice none 0 0] := by
  have := Box.fresh (w.alloc (.cells #[.int .i64 li, .int .i64 co] 27)) 33 #[.slice none 0 0, .int .i64 0, .int .i64 0, .slice none 0 0, .slice none 0 0]
  rw [World.size_alloc] at this; exact this
 have hHW := h.next hbW
 have hx := h.box
 have b0 := hx.cell 0 _ rfl
 have b1 := hx.cell 1 _ rfl
 have b6 := hx.cell 6 _ rfl
 have blt := hx.lt
 have b1w := hHW.box.cell 1 _ rfl
 have bltw := hHW.box.lt
 have hls := h.ls
 have hlk := h.lk
 have HBW : Hid (Below w.heap.size w ((w.alloc (.cells #[.int .i64 li, .int .i64 co] 27)).alloc (.cells #[.slice none 0 0, .int .i64 0, .int .i64 0, .slice none 0 0, .slice none 0 0] 33))) := hbW
 have HHW : Hid (Hall ((w.alloc (.cells #[.int .i64 li, .int .i64 co] 27)).alloc (.cells #[.slice none 0 0, .int .i64 0, .int .i64 0, .slice none 0 0, .slice none 0 0] 33)) base hb az cs ak ck ap cp mb af cf s [] fs) := hHW
 have HSP : Hid (Box ((w.alloc (.cells #[.int .i64 li, .int .i64 co] 27)).alloc (.cells #[.slice none 0 0, .int .i64 0, .int .i64 0, .slice none 0 0, .slice none 0 0] 33)) w.heap.size 27 #[.int .i64 li, .int .i64 co]) := hsp
 have HVN : Hid (Box ((w.alloc (.cells #[.int .i64 li, .int .i64 co] 27)).alloc (.cells #[.slice none 0 0, .int .i64 0, .int .i64 0, .slice none 0 0, .slice none 0 0] 33)) (w.heap.size + 1) 33 #[.slice none 0 0, .int .i64 0, .int .i64 0, .slice none 0 0, .slice none 0 0]) := hvn
 clear hbW hHW hsp hvn hx
 have hgap := hasGap_any hb s.gap _ bltw b1w
 clear b1w bltw
 by_cases hse : s.seats = []
 ·have HE : Hid (wholeL s (li, co) = .error (li, co)) := wholeL_none (.inl hse)
  have hz : ((s.seats.length : Int) == 0) = true := by simp [hse]
  clear hse hgap
  generalize s.seats.length = sl at b0 hz hls
  go_enter Tryz.func27, Tryz.ntmps27
  go_wp2_with fail
  refine (wrongAt_any li co _).mono ?_
  rintro e w1 ⟨rfl, hb1⟩
  clear b0 b1 b6 blt
  have vx := HVN.out.next hb1
  have v0 := vx.cell 0 _ rfl
  have vf0 := vx.frozen 0
  have v1 := vx.cell 1 _ rfl
  have vf1 := vx.frozen 1
  have v2 := vx.cell 2 _ rfl
  have vf2 := vx.frozen 2
  have v3 := vx.cell 3 _ rfl
  have vf3 := vx.frozen 3
  have v4 := vx.cell 4 _ rfl
  have vf4 := vx.frozen 4
  have vl := vx.lt
  have HOW : Hid (OwnH base w w1) := OwnH.of_below (HBW.out.trans (hb1.mono HBW.out.size))
  clear vx
  go_wp2_with fail
  refine bodyPost_ret (v := .tuple #[venZ, wrongV 2 li co]) (by simp [results, Tryz.results27, go_sem, v0, v1, v2, v3, v4]) rfl ?_
  exact WholeTo.bad HE.out (((((HOW.out.setNew (by omega) 0 _).setNew (by omega) 1 _).setNew (by omega) 2 _).setNew (by omega) 3 _).setNew (by omega) 4 _)
 ·have hz : ((s.seats.length : Int) == 0) = false := by
   have : ¬ s.seats.length = 0 := fun hc => hse (List.length_eq_zero_iff.1 hc)
   simp; omega
  have HSE : Hid (¬ s.seats = []) := hse
  clear hse
  go_enter Tryz.func27, Tryz.ntmps27
  go_wp2_with fail
  refine hgap.mono ?_
  rintro e w1 ⟨rfl, rfl⟩
  clear hgap
  by_cases hg0 : s.gap = 0
  ·have HE : Hid (wholeL s (li, co) = .error (li, co)) := wholeL_none (.inr hg0)
   have hgb : (s.gap == 0) = true := by simp [hg0]
   rw [hgb]
   clear hg0 hgb
   go_wp2_with fail
   refine (wrongAt_any li co _).mono ?_
   rintro e w1 ⟨rfl, hb1⟩
   clear b0 b1 b6 blt
   have vx := HVN.out.next hb1
   have v0 := vx.cell 0 _ rfl
   have vf0 := vx.frozen 0
   have v1 := vx.cell 1 _ rfl
   have vf1 := vx.frozen 1
   have v2 := vx.cell 2 _ rfl
   have vf2 := vx.frozen 2
   have v3 := vx.cell 3 _ rfl
   have vf3 := vx.frozen 3
   have v4 := vx.cell 4 _ rfl
   have vf4 := vx.frozen 4
   have vl := vx.lt
   have HOW : Hid (OwnH base w w1) := OwnH.of_below (HBW.out.trans (hb1.mono HBW.out.size))
   clear vx
   go_wp2_with fail
   refine bodyPost_ret (v := .tuple #[venZ, wrongV 2 li co]) (by simp [results, Tryz.results27, go_sem, v0, v1, v2, v3, v4]) rfl ?_
   exact WholeTo.bad HE.out (((((HOW.out.setNew (by omega) 0 _).setNew (by omega) 1 _).setNew (by omega) 2 _).setNew (by omega) 3 _).setNew (by omega) 4 _)
  ·have hgb : (s.gap == 0) = false := by simpa using hg0
   have HG0 : Hid (¬ (s.seats = [] ∨ s.gap = 0)) := fun hc => hc.elim HSE.out hg0
   rw [hgb]
   clear hg0 hgb HSE
   go_wp2_with fail
   have HFL : Hid (fs.length = s.kills.length) := HHW.out.fl
   clear b0 b1 b6 blt hz h
   go_loopw [7, 8, 31] (fun _ _ i wr => ∃ (k : Nat) (ak : Option Addr) (ck : Nat) (K : List Int), k ≤ s.kills.length ∧ i = .int .i64 k ∧ Hid (Hall wr base hb az cs ak ck ap cp mb af cf s K fs) ∧ Hid (K.length = k) ∧ Hid (killsL s.seats s.kills [] = killsL s.seats (s.kills.drop k) K) ∧ Hid (OwnH base w wr) ∧ Hid (Box wr w.heap.size 27 #[.int .i64 li, .int .i64 co]) ∧ Hid (Box wr (w.heap.size + 1) 33 #[.slice none 0 0, .int .i64 0, .int .i64 0, .slice none 0 0, .slice none 0 0])) (fun _ _ i _ => s.kills.length - (intOf i).toNat)
   case atStart => exact ⟨0, ak, ck, [], Nat.zero_le _, rfl, HHW.out, rfl, rfl, OwnH.of_below HBW.out, HSP.out, HVN.out⟩
   case round =>
    obtain ⟨k, ak, ck, K, hk, rfl, HHR, HKL, HKI, HOR, HSR, HVR⟩ := hrel
    by_cases hlt : k < s.kills.length
    ·have hltz : (k : Int) < (s.kills.length : Int) := by omega
     have hkf : k < fs.length := by have := HFL.out; omega
     have hsl : Sl 6 factC wr (.slice af fs.length cf) fs := row_sl factC_len (by have := HHR.out.fo; rw [← HFL.out] at this; exact this)
     obtain ⟨b, off, rfl, hC⟩ := Ven.cells_of_pos hsl hkf
     have hfi := HHR.out.ft k hkf
     have hat := killsL_at HKI.out hlt
     have hbl := hC.1
     obtain ⟨f, hfk⟩ : ∃ f, fs[k]'hkf = f := ⟨_, rfl⟩
     obtain ⟨⟨tk, tn, tl, tc, tt⟩, rest, g, cap⟩ := f
     rw [hfk] at hfi
     have c0 : wr.cell? ⟨b, off + k * 6, none⟩ = some (.int .i64 tk) := hC.2 k hkf 0 _ (by rw [hfk]; rfl)
     have c1 : wr.cell? ⟨b, off + k * 6 + 1, none⟩ = some (.int .i64 tn) := hC.2 k hkf 1 _ (by rw [hfk]; rfl)
     have c2 : wr.cell? ⟨b, off + k * 6 + 2, none⟩ = some (.int .i64 tl) := hC.2 k hkf 2 _ (by rw [hfk]; rfl)
     have c3 : wr.cell? ⟨b, off + k * 6 + 3, none⟩ = some (.int .i64 tc) := hC.2 k hkf 3 _ (by rw [hfk]; rfl)
     have c4 : wr.cell? ⟨b, off + k * 6 + 4, none⟩ = some (.string ⟨tt.toArray⟩) := hC.2 k hkf 4 _ (by rw [hfk]; rfl)
     have c5 : wr.cell? ⟨b, off + k * 6 + 5, none⟩ = some (.slice (restA g cap) rest.length (cap - 1)) := hC.2 k hkf 5 _ (by rw [hfk]; rfl)
     generalize s.kills[k]'hlt = kl at hfi hat
     obtain ⟨r, x, ⟨wl, wc⟩, ⟨fl, fc⟩⟩ := kl
     obtain ⟨rfl, rfl⟩ : wl = tl ∧ wc = tc := by
      have := hfi.kill
      injection this with _ _ h3 _
      simp only [spotT, Prod.mk.injEq] at h3; exact h3
     have HAT : Hid (killsL s.seats s.kills [] = if atI s.seats r x < 0 then .error (fl, fc) else if atI s.seats r x ∈ K then .error (wl, wc) else killsL s.seats (s.kills.drop (k + 1)) (K ++ [atI s.seats r x])) := hat
     have hB1 : Below wr.heap.size wr (wr.alloc (.cells #[.int .i64 tk, .int .i64 tn, .int .i64 wl, .int .i64 wc, .string ⟨tt.toArray⟩, .slice (restA g cap) rest.length (cap - 1)] 103)) := (Below.refl _ wr).alloc (Nat.le_refl _) _
     have hkc := kill_any (HHR.out.next hB1) tk tn wl wc tt rest g cap r x fl fc (hfi.own (OwnH.of_below (base := 0) hB1)) (by have := HKL.out; omega)
     have HB1 : Hid (Below wr.heap.size wr (wr.alloc (.cells #[.int .i64 tk, .int .i64 tn, .int .i64 wl, .int .i64 wc, .string ⟨tt.toArray⟩, .slice (restA g cap) rest.length (cap - 1)] 103))) := hB1
     clear hat hfi hC hsl hB1 hfk
     go_wp2_with fail
     refine hkc.mono ?_
     intro e w2 hKT
     clear hkc c0 c1 c2 c3 c4 c5
     obtain ⟨hKT, hO2⟩ := hKT
     have HO2 : Hid (OwnH base (wr.alloc (.cells #[.int .i64 tk, .int .i64 tn, .int .i64 wl, .int .i64 wc, .string ⟨tt.toArray⟩, .slice (restA g cap) rest.length (cap - 1)] 103)) w2) := hO2
     have HS2 : Hid (Box w2 w.heap.size 27 #[.int .i64 li, .int .i64 co]) := HO2.out.box (HSR.out.next HB1.out) (by decide)
     have HV2 : Hid (Box w2 (w.heap.size + 1) 33 #[.slice none 0 0, .int .i64 0, .int .i64 0, .slice none 0 0, .slice none 0 0]) := HO2.out.box (HVR.out.next HB1.out) (by decide)
     have HOR2 : Hid (OwnH base w w2) := (HOR.out.next HB1.out).trans HO2.out
     clear hO2
     by_cases ha : atI s.seats r x < 0
     ·rw [if_pos ha] at hKT
      subst hKT
      have HE : Hid (wholeL s (li, co) = .error (fl, fc)) := wholeL_kills HG0.out (by rw [HAT.out, if_pos ha])
      clear ha
      have vx := HV2.out
      have v0 := vx.cell 0 _ rfl
      have vf0 := vx.frozen 0
      have v1 := vx.cell 1 _ rfl
      have vf1 := vx.frozen 1
      have v2 := vx.cell 2 _ rfl
      have vf2 := vx.frozen 2
      have v3 := vx.cell 3 _ rfl
      have vf3 := vx.frozen 3
      have v4 := vx.cell 4 _ rfl
      have vf4 := vx.frozen 4
      have vl := vx.lt
      have HOW : Hid (OwnH base w w2) := HOR2.out
      clear vx
      go_wp2_with fail
      refine bodyPost_ret (v := .tuple #[venZ, wrongV 2 fl fc]) (by simp [results, Tryz.results27, go_sem, v0, v1, v2, v3, v4]) rfl ?_
      exact WholeTo.bad HE.out (((((HOW.out.setNew (by omega) 0 _).setNew (by omega) 1 _).setNew (by omega) 2 _).setNew (by omega) 3 _).setNew (by omega) 4 _)
     ·rw [if_neg ha] at hKT
      by_cases hm : atI s.seats r x ∈ K
      ·rw [if_pos hm] at hKT
       subst hKT
       have HE : Hid (wholeL s (li, co) = .error (wl, wc)) := wholeL_kills HG0.out (by rw [HAT.out, if_neg ha, if_pos hm])
       clear ha hm
       have vx := HV2.out
       have v0 := vx.cell 0 _ rfl
       have vf0 := vx.frozen 0
       have v1 := vx.cell 1 _ rfl
       have vf1 := vx.frozen 1
       have v2 := vx.cell 2 _ rfl
       have vf2 := vx.frozen 2
       have v3 := vx.cell 3 _ rfl
       have vf3 := vx.frozen 3
       have v4 := vx.cell 4 _ rfl
       have vf4 := vx.frozen 4
       have vl := vx.lt
       have HOW : Hid (OwnH base w w2) := HOR2.out
       clear vx
       go_wp2_with fail
       refine bodyPost_ret (v := .tuple #[venZ, wrongV 2 wl wc]) (by simp [results, Tryz.results27, go_sem, v0, v1, v2, v3, v4]) rfl ?_
       exact WholeTo.bad HE.out (((((HOW.out.setNew (by omega) 0 _).setNew (by omega) 1 _).setNew (by omega) 2 _).setNew (by omega) 3 _).setNew (by omega) 4 _)
      ·rw [if_neg hm] at hKT
       obtain ⟨rfl, ak2, ck2, hH2⟩ := hKT
       have HH2 : Hid (Hall w2 base hb az cs ak2 ck2 ap cp mb (some ⟨b, off, none⟩) cf s (K ++ [atI s.seats r x]) fs) := hH2
       have HKI2 : Hid (killsL s.seats s.kills [] = killsL s.seats (s.kills.drop (k + 1)) (K ++ [atI s.seats r x])) := by
        show _ = _
        rw [HAT.out, if_neg ha, if_neg hm]
       clear ha hm hH2
       go_wp2_with fail
       go_roundw
       case rel => exact ⟨k + 1, ak2, ck2, K ++ [atI s.seats r x], by omega, by go_num, HH2, by show _ = _; rw [List.length_append, HKL.out]; rfl, HKI2, HOR2, HS2, HV2⟩
       case measure => simp [intOf]; omega
    ·have hltz : ¬ (k : Int) < (s.kills.length : Int) := by omega
     have HE : Hid (wholeL s (li, co) = .ok ⟨s.seats, s.gap, s.radius, K, s.poles⟩) := wholeL_ok HG0.out (by rw [HKI.out, List.drop_of_length_le (by omega)]; rfl)
     have hx := HHR.out.box
     have b0 := hx.cell 0 _ rfl
     have b1 := hx.cell 1 _ rfl
     have b2 := hx.cell 2 _ rfl
     have b3 := hx.cell 3 _ rfl
     have b4 := hx.cell 4 _ rfl
     have bl := hx.lt
     have hnm := norm_own az ak ap s.seats.length cs K.length ck s.poles.length cp ⟨s.seats, s.gap, s.radius, K, s.poles⟩ wr HHR.out.ven
     clear hx
     go_wp2_with fail
     refine hnm.mono ?_
     rintro e w1 ⟨r, hN, hR, hb1⟩
     have HN : Hid (NormTo ⟨s.seats, s.gap, s.radius, K, s.poles⟩ r) := hN
     clear hnm b0 b1 b2 b3 b4 bl hN
     cases r with
     | none =>
      have hR' : e = .returned (.tuple #[venZ, .bool false]) := hR
      subst hR'
      have s1 := HSR.out.next hb1
      have z0 := s1.cell 0 _ rfl
      have z1 := s1.cell 1 _ rfl
      have zl := s1.lt
      have HB1 : Hid (Below wr.heap.size wr w1) := hb1
      clear hb1 s1
      go_wp2_with fail
      refine (wrongAt_any li co _).mono ?_
      rintro e w2 ⟨rfl, hb2⟩
      have hB12 : Below w1.heap.size w1 w2 := ((Below.refl _ w1).alloc (Nat.le_refl _) _).trans (hb2.mono (by simp))
      have hB02 := HB1.out.trans (hB12.mono HB1.out.size)
      clear z0 z1 zl
      have HW2 : Hid (Below wr.heap.size wr w2) := hB02
      clear hB12 hB02 hb2
      have vx := HVR.out.next HW2.out
      have v0 := vx.cell 0 _ rfl
      have vf0 := vx.frozen 0
      have v1 := vx.cell 1 _ rfl
      have vf1 := vx.frozen 1
      have v2 := vx.cell 2 _ rfl
      have vf2 := vx.frozen 2
      have v3 := vx.cell 3 _ rfl
      have vf3 := vx.frozen 3
      have v4 := vx.cell 4 _ rfl
      have vf4 := vx.frozen 4
      have vl := vx.lt
      have HOW : Hid (OwnH base w w2) := HOR.out.next HW2.out
      clear vx
      go_wp2_with fail
      refine bodyPost_ret (v := .tuple #[venZ, wrongV 2 li co]) (by simp [results, Tryz.results27, go_sem, v0, v1, v2, v3, v4]) rfl ?_
      rw [HE.out]
      exact ⟨⟨none, HN.out, rfl⟩, ((((HOW.out.setNew (by omega) 0 _).setNew (by omega) 1 _).setNew (by omega) 2 _).setNew (by omega) 3 _).setNew (by omega) 4 _⟩
     | some U =>
      obtain ⟨p1, m1, d1, p2, m2, d2, p3, m3, d3, rfl, hU⟩ := hR
      have hvx := HVR.out.next hb1
      have HVX : Hid (Box w1 (w.heap.size + 1) 33 #[.slice none 0 0, .int .i64 0, .int .i64 0, .slice none 0 0, .slice none 0 0]) := hvx
      have v0 := hvx.cell 0 _ rfl
      have v1 := hvx.cell 1 _ rfl
      have v2 := hvx.cell 2 _ rfl
      have v3 := hvx.cell 3 _ rfl
      have v4 := hvx.cell 4 _ rfl
      have f0 := hvx.frozen 0
      have f1 := hvx.frozen 1
      have f2 := hvx.frozen 2
      have f3 := hvx.frozen 3
      have f4 := hvx.frozen 4
      have vl := hvx.lt
      have HOW : Hid (OwnH base w w1) := HOR.out.next hb1
      have HU : Hid (VenOwn w1 p1 m1 d1 p2 m2 d2 p3 m3 d3 U) := hU
      clear hU hb1 hvx
      go_wp2_with fail
      refine bodyPost_ret (v := .tuple #[venV p1 m1 d1 U.gap U.radius p2 m2 d2 p3 m3 d3, .nilIface]) (by simp [results, Tryz.results27, go_sem, vl, v0, v1, v2, v3, v4]) rfl ?_
      rw [HE.out]
      have x0 := HVX.out
      have u0 := HU.out
      have x1 := x0.set 0 (.slice p1 m1 d1)
      have u1 := u0.set x0 (by decide) (by decide) (by decide) 0 (.slice p1 m1 d1)
      have x2 := x1.set 1 (.int .i64 U.gap)
      have u2 := u1.set x1 (by decide) (by decide) (by decide) 1 (.int .i64 U.gap)
      have x3 := x2.set 2 (.int .i64 U.radius)
      have u3 := u2.set x2 (by decide) (by decide) (by decide) 2 (.int .i64 U.radius)
      have x4 := x3.set 3 (.slice p2 m2 d2)
      have u4 := u3.set x3 (by decide) (by decide) (by decide) 3 (.slice p2 m2 d2)
      have u5 := u4.set x4 (by decide) (by decide) (by decide) 4 (.slice p3 m3 d3)
      exact ⟨⟨some U, HN.out, p1, m1, d1, p2, m2, d2, p3, m3, d3, rfl, u5.next ((Below.refl _ _).alloc (Nat.le_refl _) _)⟩, (((((HOW.out.setNew (by omega) 0 _).setNew (by omega) 1 _).setNew (by omega) 2 _).setNew (by omega) 3 _).setNew (by omega) 4 _).next ((Below.refl _ _).alloc (Nat.le_refl _) _)⟩
end Go.Proofs.YtgpkdjhllekihaaGreatDoor.Par

namespace Go.Proofs.YtgpkdjhllekihaaGreatDoor.Par
set_option linter.unusedVariables false
set_option maxRecDepth 100000
open Go.RowKit Go.Shelf Go.Maps
open Go.Proofs.YtgpkdjhllekihaaGreatDoor.Ven (Seat Pole Ven seatC poleC intC Box row_next row_slice row_setCell venV venZ VenOwn NormTo)
open Go.Proofs.YtgpkdjhllekihaaGreatDoor.Prs (atI wordK kindL letsK)

theorem all_large (l : List UInt8) (hl : 1048576 < l.length) (w : World) :
  Calls Tryz.prog 24 #[.string ⟨l.toArray⟩] w fun e w' => e = .returned (.tuple #[.slice none 0 0, .agg #[.int .i64 0, .int .i64 0], .int .i64 3]) ∧ Below w.heap.size w w' := by
 have hz : (1048576 : Int) < (l.length : Int) := by omega
 go_enter Tryz.func24, Tryz.ntmps24
 go_wp2
 refine bodyPost_ret (v := .tuple #[.slice none 0 0, .agg #[.int .i64 0, .int .i64 0], .int .i64 3]) (by simp [results, Tryz.results24, go_sem]) rfl ?_
 exact ⟨rfl, (Below.refl _ w).alloc (Nat.le_refl _) _⟩
/-- A hall of which nothing was told. -/
theorem Hall.fresh (w : World) : Hall ((w.alloc (.map #[] 0)).alloc (.cells #[.slice none 0 0, .int .i64 0, .int .i64 0, .slice none 0 0, .slice none 0 0, .map (some w.heap.size), .slice none 0 0, .bool false] 80)) w.heap.size (w.heap.size + 1) none 0 none 0 none 0 w.heap.size none 0 St.zero [] [] :=
 {hbase := by simp; omega, ge := by omega, mge := Nat.le_refl _
  box := by
   have := Box.fresh (w.alloc (.map #[] 0)) 80 #[.slice none 0 0, .int .i64 0, .int .i64 0, .slice none 0 0, .slice none 0 0, .map (some w.heap.size), .slice none 0 0, .bool false]
   rw [World.size_alloc] at this; exact this
  so := World.ownsRow_nil _ _ _ _, ko := World.ownsRow_nil _ _ _ _, po := World.ownsRow_nil _ _ _ _, fo := World.ownsRow_nil _ _ _ _
  fl := rfl, ft := fun i hi => absurd hi (Nat.not_lt_zero _)
  map := ⟨.map [], 0, by
   have hB : Below (w.alloc (.map #[] 0)).heap.size (w.alloc (.map #[] 0)) ((w.alloc (.map #[] 0)).alloc (.cells #[.slice none 0 0, .int .i64 0, .int .i64 0, .slice none 0 0, .slice none 0 0, .map (some w.heap.size), .slice none 0 0, .bool false] 80)) := (Below.refl _ _).alloc (Nat.le_refl _) _
   exact (World.ownsMap_made w Tryz.prog 145 (plainElem Tryz.prog 3)).kept (row := none) ⟨hB.os, hB.tape, hB.output, hB.size, fun k hk _ => hB.block k hk⟩ (by simp), Nat.zero_le _, MapOf.nil⟩
  ls := by decide, lp := by decide, lk := by decide, lK := by decide }
/-- What reading a text comes to. -/
def TextTo (w : World) (o : Except (Int × Int × Int) Ven) (e : Ending) (w' : World) : Prop :=
 (match o with
 | .error p => e = .returned (.tuple #[venZ, wrongV p.1 p.2.1 p.2.2])
 | .ok V => ∃ li co, Handed li co V e w') ∧ Below w.heap.size w w'
theorem TextTo.bad {w : World} {o : Except (Int × Int × Int) Ven} {c li co : Int} {w' : World} (ho : o = .error (c, li, co)) (h : Below w.heap.size w w') : TextTo w o (.returned (.tuple #[venZ, wrongV c li co])) w' := by subst ho; exact ⟨rfl, h⟩
theorem readL_large {l : List UInt8} (h : 1048576 < l.length) : readL l = .error (3, 0, 0) := by unfold readL; rw [if_pos h]
theorem readL_bad {l : List UInt8} (h : ¬ 1048576 < l.length) {ts : List T} {li co code : Int} (hA : Tok.allOf l = (ts, li, co, code)) (hc : ¬ code = 0) : readL l = .error (code, li, co) := by
 unfold readL; rw [if_neg h]; simp only [hA]; rw [if_neg hc]
theorem readL_line {l : List UInt8} (h : ¬ 1048576 < l.length) {ts : List T} {li co : Int} (hA : Tok.allOf l = (ts, li, co, 0)) {p : Int × Int} (hl : linesL ts (li, co) (ts.length + 1) 0 St.zero = .error p) : readL l = .error (2, p) := by
 unfold readL; rw [if_neg h]; simp only [hA, hl]; rfl
theorem readL_whole {l : List UInt8} (h : ¬ 1048576 < l.length) {ts : List T} {li co : Int} (hA : Tok.allOf l = (ts, li, co, 0)) {s : St} (hl : linesL ts (li, co) (ts.length + 1) 0 St.zero = .ok s) : readL l = match wholeL s (li, co) with | .error p => .error (2, p) | .ok V => .ok V := by
 unfold readL; rw [if_neg h]; simp only [hA, hl]; rfl
set_option maxHeartbeats 4000000 in
theorem read_code (l : List UInt8) (w : World) (li co code : Int) (hc : ¬ code = 0) (o : Except (Int × Int × Int) Ven) (ho : o = .error (code, li, co))
  (hA : Calls Tryz.prog 24 #[.string ⟨l.toArray⟩] (w.alloc (.cells #[.slice none 0 0, .int .i64 0, .int .i64 0, .slice none 0 0, .slice none 0 0] 33)) fun e w' => (∃ a n c, e = .returned (.tuple #[.slice a n c, .agg #[.int .i64 li, .int .i64 co], .int .i64 code])) ∧ Below (w.alloc (.cells #[.slice none 0 0, .int .i64 0, .int .i64 0, .slice none 0 0, .slice none 0 0] 33)).heap.size (w.alloc (.cells #[.slice none 0 0, .int .i64 0, .int .i64 0, .slice none 0 0, .slice none 0 0] 33)) w') :
  Calls Tryz.prog 13 #[.string ⟨l.toArray⟩] w fun e w' => TextTo w o e w' := by
 have HO : Hid (o = .error (code, li, co)) := ho
 have hcz : (code == 0) = false := by simpa using hc
 have hvn := Box.fresh w 33 #[.slice none 0 0, .int .i64 0, .int .i64 0, .slice none 0 0, .slice none 0 0]
 have HB0 : Hid (Below w.heap.size w (w.alloc (.cells #[.slice none 0 0, .int .i64 0, .int .i64 0, .slice none 0 0, .slice none 0 0] 33))) := (Below.refl _ w).alloc (Nat.le_refl _) _
 clear ho hc
 go_enter Tryz.func13, Tryz.ntmps13
 go_wp2_with fail
 refine hA.mono ?_
 rintro e w1 ⟨⟨a, n, c, rfl⟩, hb1⟩
 have hv1 := hvn.next hb1
 have v0 := hv1.cell 0 _ rfl
 have v1 := hv1.cell 1 _ rfl
 have v2 := hv1.cell 2 _ rfl
 have v3 := hv1.cell 3 _ rfl
 have v4 := hv1.cell 4 _ rfl
 have f0 := hv1.frozen 0
 have f1 := hv1.frozen 1
 have f2 := hv1.frozen 2
 have f3 := hv1.frozen 3
 have f4 := hv1.frozen 4
 have vl := hv1.lt
 have HB1 : Hid (Below w.heap.size w w1) := HB0.out.trans (hb1.mono HB0.out.size)
 clear hvn hv1 hb1 hA HB0
 go_wp2_with fail
 go_region
 all_goals
  go_wp2_with fail
  refine bodyPost_ret (v := .tuple #[venZ, wrongV code li co]) (by simp [results, Tryz.results13, go_sem, v0, v1, v2, v3, v4, vl]) rfl ?_
  refine TextTo.bad HO.out ?_
  have hh := HB1.out.size
  exact (Below.alloc (Below.setCell (Below.setCell (Below.setCell (Below.setCell (Below.setCell HB1.out (by simp) _) (by simp) _) (by simp) _) (by simp) _) (by simp) _) (by simpa using hh) _).drew
theorem readLine_any {w : World} {base hb : Nat} {az : Option Addr} {cs : Nat} {ak : Option Addr} {ck : Nat} {ap : Option Addr} {cp mb : Nat} {af : Option Addr} {cf : Nat} {s : St} {K : List Int} {fs : List Fact} (h : Hall w base hb az cs ak ck ap cp mb af cf s K fs) (X : List T) {b' : Nat} (va : Option Addr) (vc : Nat) (hrow : Tok.Row w b' (.slice va X.length vc) X) (li co : Int) :
  Calls Tryz.prog 26 #[.pointer (some ⟨hb, 0, none⟩), lineV (.slice va X.length vc) li co] w fun e w' => ReadTo w base hb mb K (lineL X (li, co) s) e w' := by
 cases X with
 | nil => exact readLine_nil h va vc li co
 | cons t r =>
  rcases hrow.toks with ⟨hv, _⟩ | ⟨g, cap, hv, _, _, _, _, _⟩
  ·injection hv with _ hv _; simp at hv
  ·injection hv with h1 h2 h3
   subst h1 h3
   obtain ⟨tk, tn, tl, tc, tt⟩ := t
   exact readLine_cons h tk tn tl tc tt r g vc (Tok.Row.le hrow (Nat.zero_le _)) li co
/-- What the loop over the lines holds. -/
structure LSt (w W : World) (base hb mb rb sb : Nat) (li co : Int) (v : Value) (ts : List T) (a : Nat) (s : St) (az : Option Addr) (cs : Nat) (ak : Option Addr) (ck : Nat) (ap : Option Addr) (cp : Nat) (af : Option Addr) (cf : Nat) (fs : List Fact) (wr : World) : Prop where
 hall : Hall wr base hb az cs ak ck ap cp mb af cf s [] fs
 far : Far ts (li, co) a s
 own : OwnH base W wr
 row : Tok.Row wr 0 v ts
 rb : Box wr rb 33 #[.slice none 0 0, .int .i64 0, .int .i64 0, .slice none 0 0, .slice none 0 0]
 sb : Box wr sb 27 #[.int .i64 li, .int .i64 co]
theorem OwnH.lowly {base : Nat} {w W W' : World} (h0 : Below w.heap.size w W) (hb : w.heap.size ≤ base) (hW : base ≤ W.heap.size) (h : OwnH base W W') : Below w.heap.size w W' := h0.trans ((h.below hW).mono hb)
set_option maxHeartbeats 4000000 in
theorem read_lines (l : List UInt8) (hl : l.length ≤ 1048576) (w : World) (hR : Tok.Rng w) (ts : List T) (li co : Int) (hA : Tok.allOf l = (ts, li, co, 0)) :
  Calls Tryz.prog 13 #[.string ⟨l.toArray⟩] w fun e w' => TextTo w (readL l) e w' := by
 have hn : ¬ 1048576 < l.length := by omega
 have hlen : ts.length ≤ 1048576 := by
  have := Tok.allP_len l.length l 1 1 (Nat.le_refl _)
  rw [← Tok.allOf_P, hA] at this
  have h2 : ts.length ≤ l.length := this
  omega
 have HRL : Hid (∀ p, linesL ts (li, co) (ts.length + 1) 0 St.zero = .error p → readL l = .error (2, p)) := fun p hp => readL_line hn hA hp
 have HRW : Hid (∀ s, linesL ts (li, co) (ts.length + 1) 0 St.zero = .ok s → readL l = match wholeL s (li, co) with | .error p => .error (2, p) | .ok V => .ok V) := fun s hp => readL_whole hn hA hp
 have hB0 : Below w.heap.size w (w.alloc (.cells #[.slice none 0 0, .int .i64 0, .int .i64 0, .slice none 0 0, .slice none 0 0] 33)) := (Below.refl _ w).alloc (Nat.le_refl _) _
 have hall := Tok.all_any l hl _ (hR.next hB0) ts li co 0 hA
 have hvn := Box.fresh w 33 #[.slice none 0 0, .int .i64 0, .int .i64 0, .slice none 0 0, .slice none 0 0]
 have HB0 : Hid (Below w.heap.size w (w.alloc (.cells #[.slice none 0 0, .int .i64 0, .int .i64 0, .slice none 0 0, .slice none 0 0] 33))) := hB0
 generalize readL l = oo at HRL HRW ⊢
 clear hB0 hA hl hn hR
 have hmm := @run_makeMap Tryz.prog
 go_enter Tryz.func13, Tryz.ntmps13
 go_wp2_with fail
 refine hall.mono ?_
 rintro e w1 ⟨v, rfl, hrow, hb1⟩
 clear hall
 obtain ⟨va, vc, rfl⟩ := row_slice hrow
 have hv1 := hvn.next hb1
 have HB1 : Hid (Below w.heap.size w w1) := HB0.out.trans (hb1.mono HB0.out.size)
 have HV1 : Hid (Box w1 w.heap.size 33 #[.slice none 0 0, .int .i64 0, .int .i64 0, .slice none 0 0, .slice none 0 0]) := hv1
 have HR1 : Hid (Tok.Row w1 0 (.slice va ts.length vc) ts) := Tok.Row.le hrow (Nat.zero_le _)
 clear hvn hv1 hb1 HB0 hrow
 go_wp2_with fail
 have hbs1 := HB1.out.size
 have HBS : Hid (w.heap.size ≤ w1.heap.size) := hbs1
 have hBA : Below w1.heap.size w1 (w1.alloc (.cells #[.int .i64 li, .int .i64 co] 27)) := (Below.refl _ w1).alloc (Nat.le_refl _) _
 have hBH : Below (w1.alloc (.cells #[.int .i64 li, .int .i64 co] 27)).heap.size (w1.alloc (.cells #[.int .i64 li, .int .i64 co] 27)) (((w1.alloc (.cells #[.int .i64 li, .int .i64 co] 27)).alloc (.map #[] 0)).alloc (.cells #[.slice none 0 0, .int .i64 0, .int .i64 0, .slice none 0 0, .slice none 0 0, .map (some (w1.heap.size + 1)), .slice none 0 0, .bool false] 80)) := ((Below.refl _ (w1.alloc (.cells #[.int .i64 li, .int .i64 co] 27))).alloc (Nat.le_refl _) _).alloc (by simp) _
 have hBB := hBA.trans (hBH.mono hBA.size)
 have hH := Hall.fresh (w1.alloc (.cells #[.int .i64 li, .int .i64 co] 27))
 rw [World.size_alloc] at hH
 have HST : Hid (LSt w (((w1.alloc (.cells #[.int .i64 li, .int .i64 co] 27)).alloc (.map #[] 0)).alloc (.cells #[.slice none 0 0, .int .i64 0, .int .i64 0, .slice none 0 0, .slice none 0 0, .map (some (w1.heap.size + 1)), .slice none 0 0, .bool false] 80)) (w1.heap.size + 1) (w1.heap.size + 1 + 1) (w1.heap.size + 1) w.heap.size w1.heap.size li co (.slice va ts.length vc) ts 0 St.zero none 0 none 0 none 0 none 0 [] (((w1.alloc (.cells #[.int .i64 li, .int .i64 co] 27)).alloc (.map #[] 0)).alloc (.cells #[.slice none 0 0, .int .i64 0, .int .i64 0, .slice none 0 0, .slice none 0 0, .map (some (w1.heap.size + 1)), .slice none 0 0, .bool false] 80))) :=
  ⟨hH, Far.zero ts (li, co), OwnH.refl _ _, row_next HR1.out hBB, HV1.out.next hBB, (Box.fresh w1 _ _).next hBH⟩
 have HBW : Hid (Below w.heap.size w (((w1.alloc (.cells #[.int .i64 li, .int .i64 co] 27)).alloc (.map #[] 0)).alloc (.cells #[.slice none 0 0, .int .i64 0, .int .i64 0, .slice none 0 0, .slice none 0 0, .map (some (w1.heap.size + 1)), .slice none 0 0, .bool false] 80))) := HB1.out.trans (hBB.mono HB1.out.size)
 clear hBA hBH hBB hH HB1 HV1 HR1
 have hsz : (((w1.alloc (.cells #[.int .i64 li, .int .i64 co] 27)).alloc (.map #[] 0)).alloc (.cells #[.slice none 0 0, .int .i64 0, .int .i64 0, .slice none 0 0, .slice none 0 0, .map (some (w1.heap.size + 1)), .slice none 0 0, .bool false] 80)).heap.size = w1.heap.size + 1 + 1 + 1 := by simp
 have HSZ : Hid (w1.heap.size + 1 ≤ (((w1.alloc (.cells #[.int .i64 li, .int .i64 co] 27)).alloc (.map #[] 0)).alloc (.cells #[.slice none 0 0, .int .i64 0, .int .i64 0, .slice none 0 0, .slice none 0 0, .map (some (w1.heap.size + 1)), .slice none 0 0, .bool false] 80)).heap.size) := (by rw [hsz]; omega : w1.heap.size + 1 ≤ (((w1.alloc (.cells #[.int .i64 li, .int .i64 co] 27)).alloc (.map #[] 0)).alloc (.cells #[.slice none 0 0, .int .i64 0, .int .i64 0, .slice none 0 0, .slice none 0 0, .map (some (w1.heap.size + 1)), .slice none 0 0, .bool false] 80)).heap.size)
 clear hsz hbs1
 generalize (((w1.alloc (.cells #[.int .i64 li, .int .i64 co] 27)).alloc (.map #[] 0)).alloc (.cells #[.slice none 0 0, .int .i64 0, .int .i64 0, .slice none 0 0, .slice none 0 0, .map (some (w1.heap.size + 1)), .slice none 0 0, .bool false] 80)) = W at HST HBW HSZ ⊢
 generalize w1.heap.size = sb at HST HBS HSZ ⊢
 go_loopw [8, 9, 10, 11] (fun x _ _ _ wr => ∃ (a : Nat) (s : St) (az : Option Addr) (cs : Nat) (ak : Option Addr) (ck : Nat) (ap : Option Addr) (cp : Nat) (af : Option Addr) (cf : Nat) (fs : List Fact), a ≤ ts.length ∧ x = .int .i64 a ∧ Hid (LSt w W (sb + 1) (sb + 1 + 1) (sb + 1) w.heap.size sb li co (.slice va ts.length vc) ts a s az cs ak ck ap cp af cf fs wr)) (fun x _ _ _ _ => ts.length - (intOf x).toNat)
 case atStart => exact ⟨0, St.zero, none, 0, none, 0, none, 0, none, 0, [], Nat.zero_le _, rfl, HST⟩
 case round =>
  obtain ⟨a, s, az, cs, ak, ck, ap, cp, af, cf, fs, ha, rfl, HL⟩ := hrel
  by_cases hlt : a < ts.length
  ·have hltz : (a : Int) < (ts.length : Int) := by omega
   rcases HL.out.row.toks with ⟨_, hnil⟩ | ⟨g, cap, hv, _, _, hcap, hcm, hT⟩
   ·subst hnil; simp at hlt
   injection hv with hva _ hvc
   subst hva hvc
   have hcall := lineAt_any ts g 0 vc hlen hcap hcm a hlt li co wr hT
   obtain ⟨q, hq, hq1, hq2⟩ := lineNext_gt ts a hlt
   rw [hq] at hcall
   have HQ : Hid (Tok.lineNext ts a = (q : Int)) := hq
   have HLT : Hid (a < ts.length) := hlt
   have s0 := HL.out.sb.cell 0 _ rfl
   have s1 := HL.out.sb.cell 1 _ rfl
   have sl := HL.out.sb.lt
   clear hT hq hcap hcm hmm
   go_wp2_with fail
   refine hcall.mono ?_
   rintro e w2 ⟨v2, rfl, hrow2, hb2⟩
   clear hcall s0 s1 sl
   obtain ⟨xa, xc, rfl⟩ := row_slice hrow2
   have hBA : Below w2.heap.size w2 (w2.alloc (.cells #[.slice xa (Tok.lineTs ts a).length xc, .int .i64 (endL ts a (li, co)).1, .int .i64 (endL ts a (li, co)).2] 82)) := (Below.refl _ w2).alloc (Nat.le_refl _) _
   have hBB := hb2.trans (hBA.mono hb2.size)
   have hread := readLine_any (HL.out.hall.next hBB) (Tok.lineTs ts a) xa xc (row_next hrow2 hBA) (endL ts a (li, co)).1 (endL ts a (li, co)).2
   have HBB : Hid (Below wr.heap.size wr (w2.alloc (.cells #[.slice xa (Tok.lineTs ts a).length xc, .int .i64 (endL ts a (li, co)).1, .int .i64 (endL ts a (li, co)).2] 82))) := hBB
   clear hBA hBB hrow2 hb2
   generalize hol : lineL (Tok.lineTs ts a) ((endL ts a (li, co)).1, (endL ts a (li, co)).2) s = ol at hread
   have HOL : Hid (lineL (Tok.lineTs ts a) (endL ts a (li, co)) s = ol) := hol
   clear hol
   go_wp2_with fail
   refine hread.mono ?_
   intro e w4 hRT
   clear hread
   obtain ⟨hRT, hO⟩ := hRT
   have HO : Hid (OwnH (sb + 1) (w2.alloc (.cells #[.slice xa (Tok.lineTs ts a).length xc, .int .i64 (endL ts a (li, co)).1, .int .i64 (endL ts a (li, co)).2] 82)) w4) := hO
   have HOW : Hid (OwnH (sb + 1) W w4) := (HL.out.own.next HBB.out).trans hO
   have HRB : Hid (Box w4 w.heap.size 33 #[.slice none 0 0, .int .i64 0, .int .i64 0, .slice none 0 0, .slice none 0 0]) := hO.box (HL.out.rb.next HBB.out) (by decide)
   clear hO
   cases ol with
   | error p =>
    have he : e = .returned (wrongV 2 p.1 p.2) := hRT
    subst he
    have HE : Hid (oo = .error (2, p)) := HRL.out p (HL.out.far.bad HLT.out HOL.out)
    have vx := HRB.out
    have v0 := vx.cell 0 _ rfl
    have f0 := vx.frozen 0
    have v1 := vx.cell 1 _ rfl
    have f1 := vx.frozen 1
    have v2 := vx.cell 2 _ rfl
    have f2 := vx.frozen 2
    have v3 := vx.cell 3 _ rfl
    have f3 := vx.frozen 3
    have v4 := vx.cell 4 _ rfl
    have f4 := vx.frozen 4
    have vl := vx.lt
    clear vx
    clear hRT
    go_wp2_with fail
    refine bodyPost_ret (v := .tuple #[venZ, wrongV 2 p.1 p.2]) (by simp [results, Tryz.results13, go_sem, v0, v1, v2, v3, v4]) rfl ?_
    have hbw := HOW.out.lowly HBW.out (by have := HBS.out; omega) HSZ.out
    exact TextTo.bad HE.out (Below.setCell (Below.setCell (Below.setCell (Below.setCell (Below.setCell hbw (by simp) _) (by simp) _) (by simp) _) (by simp) _) (by simp) _)
   | ok s' =>
    obtain ⟨rfl, az2, cs2, ak2, ck2, ap2, cp2, af2, cf2, fs2, hH2⟩ := hRT
    have HL2 : Hid (LSt w W (sb + 1) (sb + 1 + 1) (sb + 1) w.heap.size sb li co (.slice (some ⟨g, 0, none⟩) ts.length vc) ts q s' az2 cs2 ak2 ck2 ap2 cp2 af2 cf2 fs2 w4) :=
     ⟨hH2, HL.out.far.step HLT.out HOL.out HQ.out, HOW.out, HO.out.row (row_next HL.out.row HBB.out) (by decide), HRB.out, HO.out.box (HL.out.sb.next HBB.out) (by decide)⟩
    clear hH2
    go_wp2_with fail
    go_roundw
    case rel => exact ⟨q, s', az2, cs2, ak2, ck2, ap2, cp2, af2, cf2, fs2, hq2, rfl, HL2⟩
    case measure => simp [intOf]; omega
  ·have hltz : ¬ (a : Int) < (ts.length : Int) := by omega
   have hlin := HL.out.far.done hlt
   have HRO : Hid (oo = match wholeL s (li, co) with | .error p => .error (2, p) | .ok V => .ok V) := HRW.out s hlin
   have hwh := whole_any HL.out.hall li co
   have s0 := HL.out.sb.cell 0 _ rfl
   have s1 := HL.out.sb.cell 1 _ rfl
   have sl := HL.out.sb.lt
   generalize wholeL s (li, co) = ow at hwh HRO
   clear hlin hmm
   go_wp2_with fail
   refine hwh.mono ?_
   intro e w2 hWT
   clear hwh s0 s1 sl
   obtain ⟨hWT, hO⟩ := hWT
   have HOW : Hid (OwnH (sb + 1) W w2) := HL.out.own.trans hO
   have HRB : Hid (Box w2 w.heap.size 33 #[.slice none 0 0, .int .i64 0, .int .i64 0, .slice none 0 0, .slice none 0 0]) := hO.box HL.out.rb (by decide)
   clear hO
   cases ow with
   | error p =>
    have he : e = .returned (.tuple #[venZ, wrongV 2 p.1 p.2]) := hWT
    subst he
    have HE : Hid (oo = .error (2, p)) := HRO.out
    have vx := HRB.out
    have v0 := vx.cell 0 _ rfl
    have f0 := vx.frozen 0
    have v1 := vx.cell 1 _ rfl
    have f1 := vx.frozen 1
    have v2 := vx.cell 2 _ rfl
    have f2 := vx.frozen 2
    have v3 := vx.cell 3 _ rfl
    have f3 := vx.frozen 3
    have v4 := vx.cell 4 _ rfl
    have f4 := vx.frozen 4
    have vl := vx.lt
    clear vx
    clear hWT
    go_wp2_with fail
    refine bodyPost_ret (v := .tuple #[venZ, wrongV 2 p.1 p.2]) (by simp [results, Tryz.results13, go_sem, v0, v1, v2, v3, v4]) rfl ?_
    have hbw := HOW.out.lowly HBW.out (by have := HBS.out; omega) HSZ.out
    exact TextTo.bad HE.out (Below.setCell (Below.setCell (Below.setCell (Below.setCell (Below.setCell hbw (by simp) _) (by simp) _) (by simp) _) (by simp) _) (by simp) _)
   | ok V =>
    obtain ⟨r, hN, hR⟩ := hWT
    have HE : Hid (oo = .ok V) := HRO.out
    have HN : Hid (NormTo V r) := hN
    have vx := HRB.out
    have v0 := vx.cell 0 _ rfl
    have f0 := vx.frozen 0
    have v1 := vx.cell 1 _ rfl
    have f1 := vx.frozen 1
    have v2 := vx.cell 2 _ rfl
    have f2 := vx.frozen 2
    have v3 := vx.cell 3 _ rfl
    have f3 := vx.frozen 3
    have v4 := vx.cell 4 _ rfl
    have f4 := vx.frozen 4
    have vl := vx.lt
    clear vx
    clear hN
    cases r with
    | none =>
     have he : e = .returned (.tuple #[venZ, wrongV 2 li co]) := hR
     subst he
     clear hR
     go_wp2_with fail
     refine bodyPost_ret (v := .tuple #[venZ, wrongV 2 li co]) (by simp [results, Tryz.results13, go_sem, v0, v1, v2, v3, v4]) rfl ?_
     have hbw := HOW.out.lowly HBW.out (by have := HBS.out; omega) HSZ.out
     rw [HE.out]
     exact ⟨⟨li, co, none, HN.out, rfl⟩, (Below.setCell (Below.setCell (Below.setCell (Below.setCell (Below.setCell hbw (by simp) _) (by simp) _) (by simp) _) (by simp) _) (by simp) _)⟩
    | some U =>
     obtain ⟨p1, m1, d1, p2, m2, d2, p3, m3, d3, rfl, hU⟩ := hR
     have HU : Hid (VenOwn w2 p1 m1 d1 p2 m2 d2 p3 m3 d3 U) := hU
     clear hU
     go_wp2_with fail
     refine bodyPost_ret (v := .tuple #[venV p1 m1 d1 U.gap U.radius p2 m2 d2 p3 m3 d3, .nilIface]) (by simp [results, Tryz.results13, go_sem, v0, v1, v2, v3, v4]) rfl ?_
     have hbw := HOW.out.lowly HBW.out (by have := HBS.out; omega) HSZ.out
     rw [HE.out]
     have x0 := HRB.out
     have u0 := HU.out
     have x1 := x0.set 0 (.slice p1 m1 d1)
     have u1 := u0.set x0 (by decide) (by decide) (by decide) 0 (.slice p1 m1 d1)
     have x2 := x1.set 1 (.int .i64 U.gap)
     have u2 := u1.set x1 (by decide) (by decide) (by decide) 1 (.int .i64 U.gap)
     have x3 := x2.set 2 (.int .i64 U.radius)
     have u3 := u2.set x2 (by decide) (by decide) (by decide) 2 (.int .i64 U.radius)
     have x4 := x3.set 3 (.slice p2 m2 d2)
     have u4 := u3.set x3 (by decide) (by decide) (by decide) 3 (.slice p2 m2 d2)
     have u5 := u4.set x4 (by decide) (by decide) (by decide) 4 (.slice p3 m3 d3)
     exact ⟨⟨li, co, some U, HN.out, p1, m1, d1, p2, m2, d2, p3, m3, d3, rfl, u5⟩, (Below.setCell (Below.setCell (Below.setCell (Below.setCell (Below.setCell hbw (by simp) _) (by simp) _) (by simp) _) (by simp) _) (by simp) _)⟩
theorem read_any (l : List UInt8) (w : World) (hR : Tok.Rng w) :
  Calls Tryz.prog 13 #[.string ⟨l.toArray⟩] w fun e w' => TextTo w (readL l) e w' := by
 have hB0 : Below w.heap.size w (w.alloc (.cells #[.slice none 0 0, .int .i64 0, .int .i64 0, .slice none 0 0, .slice none 0 0] 33)) := (Below.refl _ w).alloc (Nat.le_refl _) _
 by_cases hl : 1048576 < l.length
 ·exact read_code l w 0 0 3 (by decide) _ (readL_large hl) ((all_large l hl _).mono fun e w' ⟨he, hb⟩ => ⟨⟨none, 0, 0, he⟩, hb⟩)
 ·obtain ⟨⟨ts, li, co, code⟩, hA⟩ : ∃ r, Tok.allOf l = r := ⟨_, rfl⟩
  by_cases hc : code = 0
  ·subst hc
   exact read_lines l (by omega) w hR ts li co hA
  ·refine read_code l w li co code hc _ (readL_bad hl hA hc) ((Tok.all_any l (by omega) _ (hR.next hB0) ts li co code hA).mono ?_)
   rintro e w' ⟨v, rfl, hrow, hb⟩
   obtain ⟨a, c, rfl⟩ := row_slice hrow
   exact ⟨⟨_, _, _, rfl⟩, hb⟩
end Go.Proofs.YtgpkdjhllekihaaGreatDoor.Par

namespace Go.Proofs.YtgpkdjhllekihaaGreatDoor.Ask
set_option linter.unusedVariables false
set_option maxRecDepth 100000
open Go.RowKit Go.Shelf
open Go.Proofs.YtgpkdjhllekihaaGreatDoor.Ven (Seat Pole Ven seatC poleC intC Box row_next row_same row_setCell row_slice ret_bool below_alloc venV venZ VenAt RNormTo)
open Go.Proofs.YtgpkdjhllekihaaGreatDoor.Prs (Kept Apart atI wordK kindL spot_any at_any)
open Go.Proofs.YtgpkdjhllekihaaGreatDoor.Par (St Kill T nOf spotT lineL linesL killsL wholeL readL Far endL readL_large readL_bad readL_line readL_whole)

theorem box_low {B : Nat} {W W' : World} {q : Nat} {t : TypeId} {cs : Array Value} (h : Box W q t cs) (hb : Below B W W') (hq : q < B) : Box W' q t cs := h.same (hb.block q hq)
theorem toks_low {B : Nat} {W W' : World} {g off : Nat} {ts : List T} (h : Tok.Toks W g off ts) (hb : Below B W W') (hg : g < B) : Tok.Toks W' g off ts :=
 ⟨Nat.lt_of_lt_of_le h.1 hb.size, fun j u hj => by rw [hb.cell (p := ⟨g, off + j, none⟩) hg]; exact h.2 j u hj⟩
theorem kept_low {base pb : Nat} {z : Nat → Rw} {s : St} {W W' : World} (h : PSt base pb z s W) (hk : Kept (mine pb z) W W') : Below base W W' :=
 ⟨hk.os, hk.tape, hk.output, hk.size, fun k hk' => hk.block k (Nat.lt_of_lt_of_le hk' h.hbase) (fun hm => by have := h.mine_ge hm; omega)⟩
/-- What the document's own reading of a text comes to. -/
def ParseTo (w : World) (o : Except (Int × Int × Int) Ven) (e : Ending) (w' : World) : Prop :=
 (match o with
 | .error p => e = .returned (.tuple #[venZ, .int .i64 p.1, .agg #[.int .i64 p.2.1, .int .i64 p.2.2]])
 | .ok V => ∃ r, RNormTo V r ∧ ∀ U, r = some U → ∃ b1 m1 d1 b2 m2 d2 b3 m3 d3, e = .returned (.tuple #[venV b1 m1 d1 U.gap U.radius b2 m2 d2 b3 m3 d3, .int .i64 0, .agg #[.int .i64 0, .int .i64 0]]) ∧ VenAt w' b1 m1 d1 b2 m2 d2 b3 m3 d3 U) ∧ Below w.heap.size w w'
theorem ParseTo.bad {w : World} {o : Except (Int × Int × Int) Ven} {c li co : Int} {w' : World} (ho : o = .error (c, li, co)) (h : Below w.heap.size w w') : ParseTo w o (.returned (.tuple #[venZ, .int .i64 c, .agg #[.int .i64 li, .int .i64 co]])) w' := by subst ho; exact ⟨rfl, h⟩
set_option maxHeartbeats 4000000 in
theorem rparse_code (l : List UInt8) (hl : l.length ≤ 1048576) (w : World) (ts : List T) (li co code : Int) (hc : ¬ code = 0) (hA : Tok.allOf l = (ts, li, co, code)) :
  Calls Tryz.prog 9 #[.string ⟨l.toArray⟩] w fun e w' => ParseTo w (readL l) e w' := by
 have HO := hidA (readL_bad (by omega) hA hc)
 have hcz : (code != 0) = true := by simpa using hc
 have hB0 := below_alloc w (.cells #[.slice none 0 0, .int .i64 0, .int .i64 0, .slice none 0 0, .slice none 0 0] 33)
 have hB1 : Below w.heap.size w ((w.alloc (.cells #[.slice none 0 0, .int .i64 0, .int .i64 0, .slice none 0 0, .slice none 0 0] 33)).alloc (.cells #[.int .i64 0, .int .i64 0] 27)) := hB0.alloc (by simp) _
 have hv := (Box.fresh w 33 #[.slice none 0 0, .int .i64 0, .int .i64 0, .slice none 0 0, .slice none 0 0]).next (below_alloc _ (.cells #[.int .i64 0, .int .i64 0] 27))
 have hs := Box.fresh (w.alloc (.cells #[.slice none 0 0, .int .i64 0, .int .i64 0, .slice none 0 0, .slice none 0 0] 33)) 27 #[.int .i64 0, .int .i64 0]
 rw [World.size_alloc] at hs
 have hall := Tok.rall_any l hl ((w.alloc (.cells #[.slice none 0 0, .int .i64 0, .int .i64 0, .slice none 0 0, .slice none 0 0] 33)).alloc (.cells #[.int .i64 0, .int .i64 0] 27)) ts li co code hA
 clear hB0 hA hc
 have HB1 := hidA hB1
 clear hB1
 go_enter Tryz.func9, Tryz.ntmps9
 go_wp2_with fail
 generalize (w.alloc (.cells #[.slice none 0 0, .int .i64 0, .int .i64 0, .slice none 0 0, .slice none 0 0] 33)).alloc (.cells #[.int .i64 0, .int .i64 0] 27) = W0 at hv hs hall HB1 ⊢
 refine hall.mono ?_
 rintro e w1 ⟨v, rfl, hrow, hb1⟩
 have hv1 := hv.next hb1
 have hs1 := hs.next hb1
 have v0 := hv1.cell 0 _ rfl
 have v1 := hv1.cell 1 _ rfl
 have v2 := hv1.cell 2 _ rfl
 have v3 := hv1.cell 3 _ rfl
 have v4 := hv1.cell 4 _ rfl
 have f0 := hv1.frozen 0
 have f1 := hv1.frozen 1
 have f2 := hv1.frozen 2
 have f3 := hv1.frozen 3
 have f4 := hv1.frozen 4
 have vl := hv1.lt
 have s0 := hs1.cell 0 _ rfl
 have s1 := hs1.cell 1 _ rfl
 have t0 := hs1.frozen 0
 have t1 := hs1.frozen 1
 have sl := hs1.lt
 have HB2 : Hid (Below w.heap.size w w1) := HB1.out.trans (hb1.mono HB1.out.size)
 clear hv hs hv1 hs1 hb1 hall hrow HB1
 go_wp2_with fail
 go_region
 all_goals
  go_wp2_with fail
  refine bodyPost_ret (v := .tuple #[venZ, .int .i64 code, .agg #[.int .i64 li, .int .i64 co]]) (by simp [results, Tryz.results9, go_sem, v0, v1, v2, v3, v4, s0, s1, vl, sl]) rfl ?_
  refine ParseTo.bad HO.out ?_
  have hh := HB2.out.size
  exact (Below.alloc (Below.setCell (Below.setCell (Below.setCell (Below.setCell (Below.setCell (Below.setCell (Below.setCell HB2.out (by simp) _) (by simp) _) (by simp) _) (by simp) _) (by simp) _) (by simp) _) (by simp) _) (by simpa using hh) _).drew
end Go.Proofs.YtgpkdjhllekihaaGreatDoor.Ask

namespace Go.Proofs.YtgpkdjhllekihaaGreatDoor.Ask
set_option linter.unusedVariables false
set_option maxRecDepth 100000
open Go.RowKit Go.Shelf
open Go.Proofs.YtgpkdjhllekihaaGreatDoor.Ven (Seat Pole Ven seatC poleC intC Box row_next row_same row_setCell row_slice)
open Go.Proofs.YtgpkdjhllekihaaGreatDoor.Prs (Kept Apart atI wordK kindL)
open Go.Proofs.YtgpkdjhllekihaaGreatDoor.Par (St Kill T)

/-- The box's cells once more, with the kills' row. -/
def cellsK (z : Nat → Rw) (gap rad gs rs : Int) (v : Value) : Array Value := #[(z 0).v, .int .i64 gap, .int .i64 rad, v, (z 1).v, .int .i64 gs, .int .i64 rs, (z 2).v, (z 3).v, (z 4).v, (z 5).v]
structure KSt (base pb kb : Nat) (W3 : World) (z : Nat → Rw) (s : St) (v : Value) (K : List Int) (W : World) : Prop where
 rws : Rws base z W
 box : Box W pb 55 (cellsK z s.gap s.radius (if s.gap = 0 then 0 else 1) (if s.hasR = true then 1 else 0) v)
 row : W.ownsRow kb 3 1 v K.length (K.flatMap intC)
 up : ∀ i, i < 6 → ∀ g, (z i).v.ownBlock = some g → g < kb
 pk : pb < kb
 hk : kb ≤ W.heap.size
 ge : base ≤ pb
 low : Below base W3 W
theorem KSt.start {base pb : Nat} {z : Nat → Rw} {s : St} {W3 W : World} (h : PSt base pb z s W) (hl : Below base W3 W) : KSt base pb W.heap.size W3 z s (.slice none 0 0) [] W :=
 {rws := h.rws, box := h.box, row := World.ownsRow_nil _ _ _ _, up := fun i hi g hg => Prs.row_lt (h.rws.row i hi) hg, pk := h.box.lt, hk := Nat.le_refl _, ge := h.ge, low := hl }
theorem KSt.hb {base pb kb : Nat} {W3 : World} {z : Nat → Rw} {s : St} {v : Value} {K : List Int} {W : World} (h : KSt base pb kb W3 z s v K W) : base ≤ kb := by
 have := h.ge; have := h.pk; omega
theorem KSt.next {base pb kb : Nat} {W3 : World} {z : Nat → Rw} {s : St} {v : Value} {K : List Int} {W W' : World} (h : KSt base pb kb W3 z s v K W) (hb : Below W.heap.size W W') : KSt base pb kb W3 z s v K W' :=
 {h with rws := h.rws.next hb, box := h.box.next hb, row := row_next h.row hb, hk := Nat.le_trans h.hk hb.size, low := h.low.trans (hb.mono (by have := h.hb; have := h.hk; omega)) }
/-- One kill more: its row has grown, the box holds it. -/
theorem KSt.put {base pb kb : Nat} {W3 : World} {z : Nat → Rw} {s : St} {v v' : Value} {K : List Int} {W W' : World} (h : KSt base pb kb W3 z s v K W) (k : Int) (hown : W'.ownsRow kb 3 1 v' (K.length + 1) (K.flatMap intC ++ intC k)) (hg : W.grownBy W' v.ownBlock) :
  KSt base pb kb W3 z s v' (K ++ [k]) (W'.setCell ⟨pb, 3, none⟩ v') := by
 have hv : ∀ g, g < kb → some g ≠ v.ownBlock := fun g hlt e => by
  have := (h.row.lt g e.symm).1; omega
 have hB : Box W' pb 55 _ := h.box.grown hg (hv pb h.pk)
 have hsz : W.heap.size ≤ W'.heap.size := hg.size
 have hlow : Below kb W W' := ⟨hg.os, hg.tape, hg.output, hg.size, fun g hlt => hg.block g (Nat.lt_of_lt_of_le hlt h.hk) (hv g hlt)⟩
 refine
  {rws := ⟨fun i hi => row_setCell (row_same (h.rws.row i hi) fun g hlt hv' => hg.block g hlt (hv g (h.up i hi g hv'))) hB (rT_ne i) 3 v', h.rws.apart⟩
   box := hB.set 3 v'
   row := ?_
   up := h.up
   pk := h.pk
   hk := by rw [World.size_setCell]; have := h.hk; omega
   ge := h.ge
   low := Below.setCell (h.low.trans (hlow.mono h.hb)) h.ge v' }
 rw [List.length_append, List.flatMap_append]
 simp only [List.flatMap_cons, List.flatMap_nil, List.append_nil]
 exact row_setCell hown hB (by decide) 3 v'
/-- A row of the parser that is not empty: where it lies, its cells. -/
theorem row_of {α : Type} {enc : α → List Value} {k : Nat} (hk : ∀ x, (enc x).length = k) {W : World} {base : Nat} {e : TypeId} {r : Rw} {l : List α} (h : W.ownsRow base e k r.v r.n r.xs) (c : r.n = l.length ∧ r.xs = l.flatMap enc) {j : Nat} (hj : j < l.length) :
  ∃ b off, r.a = some ⟨b, off, none⟩ ∧ l.length ≤ r.c ∧ r.c ≤ maxLen ∧ Ven.Cells k enc W b off l := by
 rw [c.1, c.2] at h
 rcases Ven.row_sl hk h with ⟨_, h0⟩ | ⟨b, off, cap, hv, h1, h2, h3⟩
 ·rw [h0] at hj; cases hj
 ·unfold Rw.v at hv
  injection hv with e1 e2 e3
  exact ⟨b, off, e1, by rw [e3]; exact h1, by rw [e3]; exact h2, h3⟩
end Go.Proofs.YtgpkdjhllekihaaGreatDoor.Ask

namespace Go.Proofs.YtgpkdjhllekihaaGreatDoor.Ask
set_option linter.unusedVariables false
set_option maxRecDepth 100000
open Go.RowKit Go.Shelf
open Go.Proofs.YtgpkdjhllekihaaGreatDoor.Ven (Seat Pole Ven seatC poleC intC Box row_next row_same row_setCell row_slice ret_bool below_alloc venV venZ VenAt RNormTo)
open Go.Proofs.YtgpkdjhllekihaaGreatDoor.Prs (Kept Apart atI wordK kindL spot_any at_any)
open Go.Proofs.YtgpkdjhllekihaaGreatDoor.Par (St Kill T nOf spotT lineL linesL killsL wholeL readL Far endL readL_large readL_bad readL_line readL_whole)

def z0 : Nat → Rw := fun _ => ⟨none, 0, 0, []⟩
theorem PSt.fresh (W : World) : PSt W.heap.size W.heap.size z0 St.zero (W.alloc (.cells #[.slice none 0 0, .int .i64 0, .int .i64 0, .slice none 0 0, .slice none 0 0, .int .i64 0, .int .i64 0, .slice none 0 0, .slice none 0 0, .slice none 0 0, .slice none 0 0] 55)) :=
 {rws := ⟨fun i hi => World.ownsRow_nil _ _ _ _, fun i j _ _ _ b hb => by cases hb⟩
  box := Box.fresh W 55 #[.slice none 0 0, .int .i64 0, .int .i64 0, .slice none 0 0, .slice none 0 0, .int .i64 0, .int .i64 0, .slice none 0 0, .slice none 0 0, .slice none 0 0, .slice none 0 0]
  ge := Nat.le_refl _, hbase := by simp, c0 := ⟨rfl, rfl⟩, c1 := ⟨rfl, rfl⟩, c2 := ⟨rfl, rfl⟩, c3 := ⟨rfl, rfl⟩, c4 := ⟨rfl, rfl⟩, c5 := ⟨rfl, rfl⟩, ls := by decide, lp := by decide, lk := by decide }
/-- The parser, and all that lies below it. -/
structure LP (base pb : Nat) (W3 : World) (z : Nat → Rw) (s : St) (W : World) : Prop where
 p : PSt base pb z s W
 low : Below base W3 W
theorem LP.next {base pb : Nat} {W3 : World} {z : Nat → Rw} {s : St} {W W' : World} (h : LP base pb W3 z s W) (hb : Below W.heap.size W W') : LP base pb W3 z s W' := ⟨h.p.next hb, h.low.trans (hb.mono h.p.hbase)⟩
theorem LP.other {base pb : Nat} {W3 : World} {z : Nat → Rw} {s : St} {W : World} (h : LP base pb W3 z s W) {b : Nat} (hn : ¬ mine pb z b) (hb : base ≤ b) (i : Nat) (v : Value) : LP base pb W3 z s (W.setCell ⟨b, i, none⟩ v) := ⟨h.p.other hn i v, Below.setCell h.low hb v⟩
theorem LP.kept {base pb : Nat} {W3 : World} {z z' : Nat → Rw} {s s' : St} {W W' : World} (h : LP base pb W3 z s W) (hk : Kept (mine pb z) W W') (hp : PSt base pb z' s' W') : LP base pb W3 z' s' W' := ⟨hp, h.low.trans (kept_low h.p hk)⟩
theorem row_lows {base : Nat} {W : World} {e : TypeId} {size : Nat} {v : Value} {n : Nat} {xs : List Value} (h : W.ownsRow base e size v n xs) (g i : Nat) (hg : g < base) (u : Value) : (W.setCell ⟨g, i, none⟩ u).ownsRow base e size v n xs :=
 row_same h fun g' _ hv => Below.heap_setCell W _ u g' (fun e => by have := (h.lt g' hv).1; have e' : g' = g := e; omega)
set_option maxHeartbeats 8000000 in
theorem rparse_lines (l : List UInt8) (hl : l.length ≤ 1048576) (w : World) (ts : List T) (li co : Int) (hA : Tok.allOf l = (ts, li, co, 0)) :
  Calls Tryz.prog 9 #[.string ⟨l.toArray⟩] w fun e w' => ParseTo w (readL l) e w' := by
 have hn : ¬ 1048576 < l.length := by omega
 have hlen : ts.length ≤ 1048576 := by
  have := Tok.allP_len l.length l 1 1 (Nat.le_refl _)
  rw [← Tok.allOf_P, hA] at this
  have h2 : ts.length ≤ l.length := this
  omega
 have HKIND : Hid (∀ t ∈ ts, 0 < kindL t.2.2.2.2 → t.1 = 1) := by
  have := allP_kind l.length l 1 1 (Nat.le_refl _)
  rw [← Tok.allOf_P, hA] at this
  exact this
 have HRL : Hid (∀ p, linesL ts (li, co) (ts.length + 1) 0 St.zero = .error p → readL l = .error (2, p)) := fun p hp => readL_line hn hA hp
 have HRW : Hid (∀ s, linesL ts (li, co) (ts.length + 1) 0 St.zero = .ok s → readL l = match wholeL s (li, co) with | .error p => .error (2, p) | .ok V => .ok V) := fun s hp => readL_whole hn hA hp
 have hall := Tok.rall_any l hl ((w.alloc (.cells #[.slice none 0 0, .int .i64 0, .int .i64 0, .slice none 0 0, .slice none 0 0] 33)).alloc (.cells #[.int .i64 0, .int .i64 0] 27)) ts li co 0 hA
 generalize readL l = oo at HRL HRW ⊢
 clear hA hl hn
 have hB0 := below_alloc w (.cells #[.slice none 0 0, .int .i64 0, .int .i64 0, .slice none 0 0, .slice none 0 0] 33)
 have hB1 : Below w.heap.size w ((w.alloc (.cells #[.slice none 0 0, .int .i64 0, .int .i64 0, .slice none 0 0, .slice none 0 0] 33)).alloc (.cells #[.int .i64 0, .int .i64 0] 27)) := hB0.alloc (by simp) _
 have hv := (Box.fresh w 33 #[.slice none 0 0, .int .i64 0, .int .i64 0, .slice none 0 0, .slice none 0 0]).next (below_alloc _ (.cells #[.int .i64 0, .int .i64 0] 27))
 have hs := Box.fresh (w.alloc (.cells #[.slice none 0 0, .int .i64 0, .int .i64 0, .slice none 0 0, .slice none 0 0] 33)) 27 #[.int .i64 0, .int .i64 0]
 rw [World.size_alloc] at hs
 clear hB0
 go_enter Tryz.func9, Tryz.ntmps9
 go_wp2_with fail
 generalize (w.alloc (.cells #[.slice none 0 0, .int .i64 0, .int .i64 0, .slice none 0 0, .slice none 0 0] 33)).alloc (.cells #[.int .i64 0, .int .i64 0] 27) = W0 at hv hs hall hB1 ⊢
 refine hall.mono ?_
 rintro e w1 ⟨v, rfl, hrow, hb1⟩
 have hB2 : Below w.heap.size w w1 := hB1.trans (hb1.mono hB1.size)
 have hv1 := hv.next hb1
 have hs1 := hs.next hb1
 -- the spot's box, the parser's box
 have hb2 := below_alloc w1 (.cells #[.int .i64 li, .int .i64 co] 27)
 have h6 := Box.fresh w1 27 #[.int .i64 li, .int .i64 co]
 have q6l : w1.heap.size < (w1.alloc (.cells #[.int .i64 li, .int .i64 co] 27)).heap.size := by simp
 have hP := PSt.fresh (w1.alloc (.cells #[.int .i64 li, .int .i64 co] 27))
 have hb3 := below_alloc (w1.alloc (.cells #[.int .i64 li, .int .i64 co] 27)) (.cells #[.slice none 0 0, .int .i64 0, .int .i64 0, .slice none 0 0, .slice none 0 0, .int .i64 0, .int .i64 0, .slice none 0 0, .slice none 0 0, .slice none 0 0, .slice none 0 0] 55)
 have hszb : (w1.alloc (.cells #[.int .i64 li, .int .i64 co] 27)).heap.size = w1.heap.size + 1 := by simp
 have HV0 := (hv1.next hb2).next hb3
 have HS0 := (hs1.next hb2).next hb3
 have H60 := h6.next hb3
 have hrow3 : Tok.Row ((w1.alloc (.cells #[.int .i64 li, .int .i64 co] 27)).alloc (.cells #[.slice none 0 0, .int .i64 0, .int .i64 0, .slice none 0 0, .slice none 0 0, .int .i64 0, .int .i64 0, .slice none 0 0, .slice none 0 0, .slice none 0 0, .slice none 0 0] 55)) W0.heap.size v ts := row_next (row_next hrow hb2) hb3
 have hgb : ∀ g, v.ownBlock = some g → g < w1.heap.size := fun g hg => Prs.row_lt hrow hg
 have q2l : w.heap.size < w1.heap.size + 1 := by have := hB2.size; omega
 have q4l : w.heap.size + 1 < w1.heap.size + 1 := by have := hs1.lt; omega
 have q46 : w.heap.size + 1 < w1.heap.size := hs1.lt
 have hW3 : Below w.heap.size w ((w1.alloc (.cells #[.int .i64 li, .int .i64 co] 27)).alloc (.cells #[.slice none 0 0, .int .i64 0, .int .i64 0, .slice none 0 0, .slice none 0 0, .int .i64 0, .int .i64 0, .slice none 0 0, .slice none 0 0, .slice none 0 0, .slice none 0 0] 55)) := (hB2.trans (hb2.mono hB2.size)).trans (hb3.mono (by have := hB2.size; simp; omega))
 rw [hszb] at hP hb3
 clear hall hB1 hb1 hv hs hv1 hs1 hrow h6
 go_wp2_with fail
 generalize (w1.alloc (.cells #[.int .i64 li, .int .i64 co] 27)).alloc (.cells #[.slice none 0 0, .int .i64 0, .int .i64 0, .slice none 0 0, .slice none 0 0, .int .i64 0, .int .i64 0, .slice none 0 0, .slice none 0 0, .slice none 0 0, .slice none 0 0] 55) = W3 at hP HV0 HS0 H60 hrow3 hW3 hb3 ⊢
 obtain ⟨base, hbase⟩ : ∃ base, base = w1.heap.size + 1 := ⟨_, rfl⟩
 have hbq : w1.heap.size < base := by omega
 rw [← hbase] at hP q2l q4l ⊢
 generalize w1.heap.size = q6 at H60 hgb hbq q46 ⊢
 have HV := hidA HV0
 have HSP := hidA HS0
 have H6 := hidA H60
 have HROW := hidA hrow3
 have HGB : Hid (∀ g, v.ownBlock = some g → g < base) := fun g hg => by have := hgb g hg; omega
 have hle : w.heap.size ≤ base := by omega
 have HLOW : Hid (∀ W', Below base W3 W' → Below w.heap.size w W') := fun W' h => hW3.trans (h.mono hle)
 have HP0 : Hid (LP base base W3 z0 St.zero W3) := ⟨hP, Below.refl _ _⟩
 have hb0 : base ≤ W3.heap.size := hP.hbase
 have HFZ : Hid (Far ts (li, co) 0 St.zero) := Far.zero ts (li, co)
 clear hP HV0 HS0 H60 hrow3 hW3 hb3 hszb hbase hgb hB2 hb2 q6l
 obtain ⟨va, vc, hvs⟩ := row_slice HROW.out
 subst hvs
 go_wp2
 go_loopw [9, 10, 11, 12, 13, 14] (fun at_ _ _ _ _ _ wr => ∃ (a : Nat) (s : St) (z : Nat → Rw), a ≤ ts.length ∧ at_ = .int .i64 a ∧ Hid (LP base base W3 z s wr) ∧ Hid (Far ts (li, co) a s)) (fun at_ _ _ _ _ _ _ => ts.length - (intOf at_).toNat)
 case atStart => exact ⟨0, St.zero, z0, Nat.zero_le _, rfl, HP0, HFZ⟩
 case round =>
  obtain ⟨a, s, z, hal, rfl, HLP, HF⟩ := hrel
  by_cases ha : a < ts.length
  ·have haz : (a : Int) < (ts.length : Int) := by omega
   obtain ⟨g, gl, rfl, hcap, hcm, hT3⟩ : ∃ g, g < base ∧ va = some ⟨g, 0, none⟩ ∧ ts.length ≤ vc ∧ vc ≤ maxLen ∧ Tok.Toks W3 g 0 ts := by
    rcases HROW.out.toks with ⟨_, h⟩ | ⟨g, cap, hv, _, _, h1, h2, h3⟩
    ·rw [h] at ha; simp at ha
    ·injection hv with e1 e2 e3
     subst e1 e3
     exact ⟨g, HGB.out g rfl, rfl, h1, h2, h3⟩
   have hTr := toks_low hT3 HLP.out.low gl
   have HTR := hidA hTr
   have hgn : ∀ z s W, PSt base base z s W → ¬ mine base z g := fun z s W hp hm => by have := hp.mine_ge hm; omega
   have HGN := hidA hgn
   obtain ⟨b, hnx, hb1, hb2⟩ := Par.lineNext_gt ts a ha
   have hline := Tok.rline_in ts g vc hlen hcap (by unfold maxLen at hcm; omega) a ha wr hTr
   rw [hnx] at hline
   have hXl := Tok.lineTs_len ts a (by omega)
   have hml := Tok.lineLen_le (ts.drop a)
   rw [List.length_drop] at hml
   have hend : endL ts a (li, co) = if a + Tok.lineLen (ts.drop a) < ts.length then spotT (ts[a + Tok.lineLen (ts.drop a)]!) else (li, co) := rfl
   have hTX : Tok.Toks wr g (a * 5) (Tok.lineTs ts a) := by
    have := (hTr.drop a).take (Tok.lineLen (ts.drop a))
    rw [Nat.zero_add] at this
    exact this
   have HKX : Hid (∀ t ∈ Tok.lineTs ts a, 0 < kindL t.2.2.2.2 → t.1 = 1) := fun t ht => HKIND.out t (List.mem_of_mem_drop (List.mem_of_mem_take ht))
   generalize hXX : Tok.lineTs ts a = X at hline hXl hTX HKX
   generalize hmm : Tok.lineLen (ts.drop a) = m at hXl hml hend
   have HTX := hidA hTX
   have HSTEP : Hid (∀ s', lineL X (endL ts a (li, co)) s = .ok s' → Far ts (li, co) b s') := fun s' h => HF.out.step ha (by rw [hXX]; exact h) hnx
   have HBADL : Hid (∀ p, lineL X (endL ts a (li, co)) s = .error p → oo = .error (2, p)) := fun p h => HRL.out p (HF.out.bad ha (by rw [hXX]; exact h))
   have HEND := hidA hend
   generalize endL ts a (li, co) = E at HSTEP HBADL HEND
   obtain ⟨el, ec⟩ := E
   clear hTr hT3 hgn hTX hXX hmm hend hnx HF
   have b6 := box_low H6.out HLP.out.low hbq
   have e0 := b6.cell 0 _ rfl
   have e1 := b6.cell 1 _ rfl
   have l6 := b6.lt
   have hnm := fun (k : Nat) (hk : wr.heap.size ≤ k) (hm : mine base z k) => by have := HLP.out.p.mine_lt hm; omega
   have HNM := hidA (show ∀ k, wr.heap.size ≤ k → ¬ mine base z k from fun k hk hm => by have := HLP.out.p.mine_lt hm; omega)
   have HBS := hidA HLP.out.p.hbase
   have hgw : g < wr.heap.size := Nat.lt_of_lt_of_le gl HBS.out
   clear hnm b6
   have HX12 := hidA (Box.fresh wr 27 #[.int .i64 li, .int .i64 co])
   have HB12 := hidA (below_alloc wr (.cells #[.int .i64 li, .int .i64 co] 27))
   rw [hXl] at hline
   go_wp2_with fail
   refine hline.mono ?_
   clear hline
   rintro e w2 ⟨rfl, rfl⟩
   cases X with
   | nil =>
    obtain rfl : m = 0 := hXl.symm
    by_cases h9 : a + 0 < ts.length
    ·have h9z : (a : Int) + (((0 : Nat)) : Int) < (ts.length : Int) := by omega
     have ta := HTR.out.at (a + 0) h9
     have HE9 := HEND.out
     rw [if_pos h9, getElem!_pos ts _ h9] at HE9
     generalize ts[a + 0] = y at ta HE9
     obtain ⟨yk, yn, yl, yc, yt⟩ := y
     obtain ⟨d0, d1, d2, d3, d4⟩ := ta
     simp only [Nat.add_zero, Nat.zero_add] at d0 d1 d2 d3 d4
     simp only [spotT, Prod.mk.injEq] at HE9
     obtain ⟨rfl, rfl⟩ := HE9
     go_wp2_with fail
     refine (spot_any yk yn el ec yt _).mono ?_
     rintro e wz ⟨rfl, hbz⟩
     have bz := HX12.out.next hbz
     have g0 := bz.cell 0 _ rfl
     have g1 := bz.cell 1 _ rfl
     have r0 := bz.frozen 0
     have r1 := bz.frozen 1
     have gll := bz.lt
     have HBZ : Hid (Below base w2 wz) := (HB12.out.mono HBS.out).trans (hbz.mono (by simpa using Nat.le_succ_of_le HBS.out))
     have HBZ2 : Hid (Below w2.heap.size w2 wz) := HB12.out.trans (hbz.mono (by simp))
     have HLP5 : Hid (LP base base W3 z s ((wz.setCell ⟨w2.heap.size, 0, none⟩ (.int .i64 el)).setCell ⟨w2.heap.size, 1, none⟩ (.int .i64 ec))) := ((HLP.out.next HBZ2.out).other (HNM.out _ (Nat.le_refl _)) HBS.out _ _).other (HNM.out _ (Nat.le_refl _)) HBS.out _ _
     have HB5 : Hid (Below base w2 ((wz.setCell ⟨w2.heap.size, 0, none⟩ (.int .i64 el)).setCell ⟨w2.heap.size, 1, none⟩ (.int .i64 ec))) := Below.setCell (Below.setCell HBZ.out HBS.out _) HBS.out _
     clear bz hbz
     go_wp2_with fail
     exact ⟨⟨b, s, z, by omega, rfl, HLP5, HSTEP.out s rfl⟩, by simp [intOf]; omega⟩
    ·exact absurd ha (by omega)
   | cons tw rest =>
    obtain rfl : m = rest.length + 1 := hXl.symm
    by_cases h9 : a + (rest.length + 1) < ts.length
    ·have h9z : (a : Int) + ((((rest.length + 1) : Nat)) : Int) < (ts.length : Int) := by omega
     have ta := HTR.out.at (a + (rest.length + 1)) h9
     have HE9 := HEND.out
     rw [if_pos h9, getElem!_pos ts _ h9] at HE9
     generalize ts[a + (rest.length + 1)] = y at ta HE9
     obtain ⟨yk, yn, yl, yc, yt⟩ := y
     obtain ⟨d0, d1, d2, d3, d4⟩ := ta
     simp only [Nat.zero_add] at d0 d1 d2 d3 d4
     simp only [spotT, Prod.mk.injEq] at HE9
     obtain ⟨rfl, rfl⟩ := HE9
     go_wp2_with fail
     refine (spot_any yk yn el ec yt _).mono ?_
     rintro e wz ⟨rfl, hbz⟩
     have bz := HX12.out.next hbz
     have g0 := bz.cell 0 _ rfl
     have g1 := bz.cell 1 _ rfl
     have r0 := bz.frozen 0
     have r1 := bz.frozen 1
     have gll := bz.lt
     have HBZ : Hid (Below base w2 wz) := (HB12.out.mono HBS.out).trans (hbz.mono (by simpa using Nat.le_succ_of_le HBS.out))
     have HBZ2 : Hid (Below w2.heap.size w2 wz) := HB12.out.trans (hbz.mono (by simp))
     have HLP5 : Hid (LP base base W3 z s ((wz.setCell ⟨w2.heap.size, 0, none⟩ (.int .i64 el)).setCell ⟨w2.heap.size, 1, none⟩ (.int .i64 ec))) := ((HLP.out.next HBZ2.out).other (HNM.out _ (Nat.le_refl _)) HBS.out _ _).other (HNM.out _ (Nat.le_refl _)) HBS.out _ _
     have HB5 : Hid (Below base w2 ((wz.setCell ⟨w2.heap.size, 0, none⟩ (.int .i64 el)).setCell ⟨w2.heap.size, 1, none⟩ (.int .i64 ec))) := Below.setCell (Below.setCell HBZ.out HBS.out _) HBS.out _
     clear bz hbz
     obtain ⟨tk, tn, tl, tc, tt⟩ := tw
     have hgt : (((rest.length + 1 : Nat)) : Int) > 0 := by omega
     have hgt2 : (rest.length : Int) + 1 > 0 := by omega
     go_wp2_with fail
     refine (rpline_any HLP5.out.p tk tn tl tc tt rest g (a * 5) (vc - a) (HGN.out _ _ _ HLP5.out.p) (toks_low HTX.out HB5.out gl) (by omega) (fun h => HKX.out _ (List.mem_cons_self ..) h) _ _).mono ?_
     rintro e w3 ⟨hr, hk3⟩
     generalize hll : lineL ((tk, tn, tl, tc, tt) :: rest) (el, ec) s = o3 at hr
     cases o3 with
     | error p =>
      obtain ⟨pl, pc⟩ := p
      simp only at hr
      subst hr
      have HO2 := hidA (HBADL.out _ hll)
      have HB3 : Hid (Below base W3 w3) := HLP5.out.low.trans (kept_low HLP5.out.p hk3)
      have hx := Box.fresh w3 27 #[.int .i64 pl, .int .i64 pc]
      have x0 := hx.cell 0 _ rfl
      have x1 := hx.cell 1 _ rfl
      have hx3 := HB3.out.trans ((below_alloc w3 (.cells #[.int .i64 pl, .int .i64 pc] 27)).mono (by have := HB3.out.size; omega))
      have HX3 := hidA hx3
      have q3b : base ≤ w3.heap.size := by have := HB3.out.size; omega
      have n1 : ¬ w.heap.size = w3.heap.size := by omega
      have n2 : ¬ w3.heap.size = w.heap.size := by omega
      have n3 : ¬ w.heap.size + 1 = w3.heap.size := by omega
      have n4 : ¬ w3.heap.size = w.heap.size + 1 := by omega
      clear hll hk3 hx hx3
      have hv1 := box_low HV.out (HX3.out) q2l
      have hs1 := box_low HSP.out (HX3.out) q4l
      have v0 := hv1.cell 0 _ rfl
      have v1 := hv1.cell 1 _ rfl
      have v2 := hv1.cell 2 _ rfl
      have v3 := hv1.cell 3 _ rfl
      have v4 := hv1.cell 4 _ rfl
      have f0 := hv1.frozen 0
      have f1 := hv1.frozen 1
      have f2 := hv1.frozen 2
      have f3 := hv1.frozen 3
      have f4 := hv1.frozen 4
      have vl := hv1.lt
      have s0 := hs1.cell 0 _ rfl
      have s1 := hs1.cell 1 _ rfl
      have t0 := hs1.frozen 0
      have t1 := hs1.frozen 1
      have sl := hs1.lt
      have HBE : Hid (Below w.heap.size w (w3.alloc (.cells #[.int .i64 pl, .int .i64 pc] 27))) := HLOW.out _ (HX3.out)
      clear hv1 hs1
      go_wp2_with fail
      go_region
      all_goals
       go_wp2_with fail
       refine bodyPost_ret (v := .tuple #[venZ, .int .i64 2, .agg #[.int .i64 pl, .int .i64 pc]]) (by simp [results, Tryz.results9, go_sem, v0, v1, v2, v3, v4, s0, s1]) rfl ?_
       refine ParseTo.bad HO2.out ?_
       exact ((Below.setCell (Below.setCell (Below.setCell (Below.setCell (Below.setCell (Below.setCell (Below.setCell HBE.out (by simp) _) (by simp) _) (by simp) _) (by simp) _) (by simp) _) (by simp) _) (by simp) _)).drew
     | ok s3 =>
      obtain ⟨⟨a3, b3, rfl⟩, z3, hp3, hm3⟩ := hr
      have HL3 := hidA ((HLP5.out.kept hk3 hp3).next (below_alloc w3 (.cells #[.int .i64 a3, .int .i64 b3] 27)))
      have HF3 := hidA (HSTEP.out _ hll)
      clear hll hk3 hp3 hm3
      go_wp2_with fail
      exact ⟨⟨b, s3, z3, by omega, rfl, HL3, HF3.out⟩, by simp [intOf]; omega⟩
    ·have h9z : ¬ (a : Int) + ((((rest.length + 1) : Nat)) : Int) < (ts.length : Int) := by omega
     have HE9 := HEND.out
     rw [if_neg h9, Prod.mk.injEq] at HE9
     obtain ⟨rfl, rfl⟩ := HE9
     have bz := HX12.out
     have g0 := bz.cell 0 _ rfl
     have g1 := bz.cell 1 _ rfl
     have gll := bz.lt
     have HLP5 : Hid (LP base base W3 z s (w2.alloc (.cells #[.int .i64 el, .int .i64 ec] 27))) := HLP.out.next HB12.out
     have HB5 : Hid (Below base w2 (w2.alloc (.cells #[.int .i64 el, .int .i64 ec] 27))) := HB12.out.mono HBS.out
     clear bz
     obtain ⟨tk, tn, tl, tc, tt⟩ := tw
     have hgt : (((rest.length + 1 : Nat)) : Int) > 0 := by omega
     have hgt2 : (rest.length : Int) + 1 > 0 := by omega
     go_wp2_with fail
     refine (rpline_any HLP5.out.p tk tn tl tc tt rest g (a * 5) (vc - a) (HGN.out _ _ _ HLP5.out.p) (toks_low HTX.out HB5.out gl) (by omega) (fun h => HKX.out _ (List.mem_cons_self ..) h) _ _).mono ?_
     rintro e w3 ⟨hr, hk3⟩
     generalize hll : lineL ((tk, tn, tl, tc, tt) :: rest) (el, ec) s = o3 at hr
     cases o3 with
     | error p =>
      obtain ⟨pl, pc⟩ := p
      simp only at hr
      subst hr
      have HO2 := hidA (HBADL.out _ hll)
      have HB3 : Hid (Below base W3 w3) := HLP5.out.low.trans (kept_low HLP5.out.p hk3)
      have hx := Box.fresh w3 27 #[.int .i64 pl, .int .i64 pc]
      have x0 := hx.cell 0 _ rfl
      have x1 := hx.cell 1 _ rfl
      have hx3 := HB3.out.trans ((below_alloc w3 (.cells #[.int .i64 pl, .int .i64 pc] 27)).mono (by have := HB3.out.size; omega))
      have HX3 := hidA hx3
      have q3b : base ≤ w3.heap.size := by have := HB3.out.size; omega
      have n1 : ¬ w.heap.size = w3.heap.size := by omega
      have n2 : ¬ w3.heap.size = w.heap.size := by omega
      have n3 : ¬ w.heap.size + 1 = w3.heap.size := by omega
      have n4 : ¬ w3.heap.size = w.heap.size + 1 := by omega
      clear hll hk3 hx hx3
      have hv1 := box_low HV.out (HX3.out) q2l
      have hs1 := box_low HSP.out (HX3.out) q4l
      have v0 := hv1.cell 0 _ rfl
      have v1 := hv1.cell 1 _ rfl
      have v2 := hv1.cell 2 _ rfl
      have v3 := hv1.cell 3 _ rfl
      have v4 := hv1.cell 4 _ rfl
      have f0 := hv1.frozen 0
      have f1 := hv1.frozen 1
      have f2 := hv1.frozen 2
      have f3 := hv1.frozen 3
      have f4 := hv1.frozen 4
      have vl := hv1.lt
      have s0 := hs1.cell 0 _ rfl
      have s1 := hs1.cell 1 _ rfl
      have t0 := hs1.frozen 0
      have t1 := hs1.frozen 1
      have sl := hs1.lt
      have HBE : Hid (Below w.heap.size w (w3.alloc (.cells #[.int .i64 pl, .int .i64 pc] 27))) := HLOW.out _ (HX3.out)
      clear hv1 hs1
      go_wp2_with fail
      go_region
      all_goals
       go_wp2_with fail
       refine bodyPost_ret (v := .tuple #[venZ, .int .i64 2, .agg #[.int .i64 pl, .int .i64 pc]]) (by simp [results, Tryz.results9, go_sem, v0, v1, v2, v3, v4, s0, s1]) rfl ?_
       refine ParseTo.bad HO2.out ?_
       exact ((Below.setCell (Below.setCell (Below.setCell (Below.setCell (Below.setCell (Below.setCell (Below.setCell HBE.out (by simp) _) (by simp) _) (by simp) _) (by simp) _) (by simp) _) (by simp) _) (by simp) _)).drew
     | ok s3 =>
      obtain ⟨⟨a3, b3, rfl⟩, z3, hp3, hm3⟩ := hr
      have HL3 := hidA ((HLP5.out.kept hk3 hp3).next (below_alloc w3 (.cells #[.int .i64 a3, .int .i64 b3] 27)))
      have HF3 := hidA (HSTEP.out _ hll)
      clear hll hk3 hp3 hm3
      go_wp2_with fail
      exact ⟨⟨b, s3, z3, by omega, rfl, HL3, HF3.out⟩, by simp [intOf]; omega⟩
  ·have haz : ¬ (a : Int) < (ts.length : Int) := by omega
   have HD := hidA (HRW.out s (HF.out.done ha))
   have b6 := box_low H6.out HLP.out.low hbq
   have e0 := b6.cell 0 _ rfl
   have e1 := b6.cell 1 _ rfl
   have m1 : ¬ w.heap.size = q6 := by omega
   have m2 : ¬ q6 = w.heap.size := by omega
   have m3 : ¬ w.heap.size + 1 = q6 := by omega
   have m4 : ¬ q6 = w.heap.size + 1 := by omega
   have p0 : wr.cell? ⟨base, 0, none⟩ = some (.slice (z 0).a s.seats.length (z 0).c) := by rw [← HLP.out.p.c0.1]; exact HLP.out.p.box.cell 0 _ rfl
   have p5 : wr.cell? ⟨base, 5, none⟩ = some (.int .i64 (if s.gap = 0 then 0 else 1)) := HLP.out.p.box.cell 5 _ rfl
   clear b6 HF HFZ HP0
   by_cases hS : s.seats.length = 0
   ·have hS2 : ((s.seats.length : Int) == 0) = true := by simp [hS]
    have hO : oo = .error (2, (li, co)) := by rw [HD.out]; simp only [wholeL, if_pos (Or.inl (List.length_eq_zero_iff.mp hS) : s.seats = [] ∨ s.gap = 0)]
    have HO2 := hidA hO
    clear hO
    have hv1 := box_low HV.out (HLP.out.low) q2l
    have hs1 := box_low HSP.out (HLP.out.low) q4l
    have v0 := hv1.cell 0 _ rfl
    have v1 := hv1.cell 1 _ rfl
    have v2 := hv1.cell 2 _ rfl
    have v3 := hv1.cell 3 _ rfl
    have v4 := hv1.cell 4 _ rfl
    have f0 := hv1.frozen 0
    have f1 := hv1.frozen 1
    have f2 := hv1.frozen 2
    have f3 := hv1.frozen 3
    have f4 := hv1.frozen 4
    have vl := hv1.lt
    have s0 := hs1.cell 0 _ rfl
    have s1 := hs1.cell 1 _ rfl
    have t0 := hs1.frozen 0
    have t1 := hs1.frozen 1
    have sl := hs1.lt
    have HBE : Hid (Below w.heap.size w wr) := HLOW.out _ (HLP.out.low)
    clear hv1 hs1
    go_wp2_with fail
    go_region
    all_goals
     go_wp2_with fail
     refine bodyPost_ret (v := .tuple #[venZ, .int .i64 2, .agg #[.int .i64 li, .int .i64 co]]) (by simp [results, Tryz.results9, go_sem, v0, v1, v2, v3, v4, s0, s1]) rfl ?_
     refine ParseTo.bad HO2.out ?_
     exact ((Below.setCell (Below.setCell (Below.setCell (Below.setCell (Below.setCell (Below.setCell (Below.setCell HBE.out (by simp) _) (by simp) _) (by simp) _) (by simp) _) (by simp) _) (by simp) _) (by simp) _)).drew
   ·have hS2 : ((s.seats.length : Int) == 0) = false := by simpa using fun h => hS (by rw [h]; rfl)
    by_cases hG : s.gap = 0
    ·rw [if_pos hG] at p5
     have hO : oo = .error (2, (li, co)) := by rw [HD.out]; simp only [wholeL, if_pos (Or.inr hG : s.seats = [] ∨ s.gap = 0)]
     have HO2 := hidA hO
     clear hO
     have hv1 := box_low HV.out (HLP.out.low) q2l
     have hs1 := box_low HSP.out (HLP.out.low) q4l
     have v0 := hv1.cell 0 _ rfl
     have v1 := hv1.cell 1 _ rfl
     have v2 := hv1.cell 2 _ rfl
     have v3 := hv1.cell 3 _ rfl
     have v4 := hv1.cell 4 _ rfl
     have f0 := hv1.frozen 0
     have f1 := hv1.frozen 1
     have f2 := hv1.frozen 2
     have f3 := hv1.frozen 3
     have f4 := hv1.frozen 4
     have vl := hv1.lt
     have s0 := hs1.cell 0 _ rfl
     have s1 := hs1.cell 1 _ rfl
     have t0 := hs1.frozen 0
     have t1 := hs1.frozen 1
     have sl := hs1.lt
     have HBE : Hid (Below w.heap.size w wr) := HLOW.out _ (HLP.out.low)
     clear hv1 hs1
     go_wp2_with fail
     go_region
     all_goals
      go_wp2_with fail
      refine bodyPost_ret (v := .tuple #[venZ, .int .i64 2, .agg #[.int .i64 li, .int .i64 co]]) (by simp [results, Tryz.results9, go_sem, v0, v1, v2, v3, v4, s0, s1]) rfl ?_
      refine ParseTo.bad HO2.out ?_
      exact ((Below.setCell (Below.setCell (Below.setCell (Below.setCell (Below.setCell (Below.setCell (Below.setCell HBE.out (by simp) _) (by simp) _) (by simp) _) (by simp) _) (by simp) _) (by simp) _) (by simp) _)).drew
    ·rw [if_neg hG] at p5
     have HK0 := hidA (KSt.start HLP.out.p HLP.out.low)
     have hno : ¬ (s.seats = [] ∨ s.gap = 0) := fun h => h.elim (fun h => hS (by rw [h]; rfl)) hG
     have hW2 : oo = match killsL s.seats s.kills [] with | .error p => .error (2, p) | .ok K => .ok ⟨s.seats, s.gap, s.radius, K, s.poles⟩ := by
      rw [HD.out]; simp only [wholeL, if_neg hno]; cases killsL s.seats s.kills [] <;> rfl
     have HW2 := hidA hW2
     have HZ := hidA HLP.out.p
     obtain ⟨kb, hkb⟩ : ∃ kb, kb = wr.heap.size := ⟨_, rfl⟩
     rw [← hkb] at HK0
     clear hno hW2 HD HLP HRW HRL hkb m1 m2 m3 m4
     go_wp2_with fail
     clear p0 p5 e0 e1
     go_loopw [15, 16, 17] (fun i _ _ w5 => ∃ (k : Nat) (K : List Int) (v : Value), k ≤ s.kills.length ∧ i = .int .i64 k ∧ Hid (K.length = k) ∧ Hid (killsL s.seats s.kills [] = killsL s.seats (s.kills.drop k) K) ∧ Hid (KSt base base kb W3 z s v K w5)) (fun i _ _ _ => s.kills.length - (intOf i).toNat)
     case atStart => exact ⟨0, [], _, Nat.zero_le _, rfl, hidA rfl, (show _ = _ by rw [List.drop_zero]), HK0⟩
     case round =>
      obtain ⟨k, K, v, hk1, rfl, HKk, HKL, HK⟩ := hrel
      have hKb : K.length ≤ 200 := by have := HKk.out; have := HZ.out.lk; omega
      have p7 : wr.cell? ⟨base, 7, none⟩ = some (.slice (z 2).a s.kills.length (z 2).c) := by rw [← HZ.out.c2.1]; exact HK.out.box.cell 7 _ rfl
      by_cases hk : k < s.kills.length
      ·have hkz : (k : Int) < (s.kills.length : Int) := by omega
       obtain ⟨b2, o2, ha2, hc2, hm2, HC2⟩ := row_of (enc := fun k : Kill => intC k.row) (k := 1) (fun _ => rfl) (HK.out.rws.row 2 (by omega)) HZ.out.c2 hk
       obtain ⟨b3, o3, ha3, hc3, hm3, HC3⟩ := row_of (enc := fun k : Kill => intC k.x) (k := 1) (fun _ => rfl) (HK.out.rws.row 3 (by omega)) HZ.out.c3 hk
       have P7 : ∀ p : Ven.BelowOf wr, p.w.cell? ⟨base, 7, none⟩ = some (.slice (some ⟨b2, o2, none⟩) s.kills.length (z 2).c) := fun p => by rw [← ha2, ← HZ.out.c2.1]; exact (HK.out.next p.h).box.cell 7 _ rfl
       have P8 : ∀ p : Ven.BelowOf wr, p.w.cell? ⟨base, 8, none⟩ = some (.slice (some ⟨b3, o3, none⟩) s.kills.length (z 3).c) := fun p => by rw [← ha3, ← HZ.out.c3.1]; exact (HK.out.next p.h).box.cell 8 _ rfl
       have r2 : ∀ p : Ven.BelowOf wr, p.w.cell? ⟨b2, o2 + k, none⟩ = some (.int .i64 s.kills[k].row) := fun p => by simpa using (HC2.next p.h).2 k hk 0 _ rfl
       have r3 : ∀ p : Ven.BelowOf wr, p.w.cell? ⟨b3, o3 + k, none⟩ = some (.int .i64 s.kills[k].x) := fun p => by simpa using (HC3.next p.h).2 k hk 0 _ rfl
       have hS0 : Ven.Sl 4 seatC wr (.slice (z 0).a s.seats.length (z 0).c) s.seats := by
        have h := HK.out.rws.row 0 (by omega)
        rw [HZ.out.c0.1, HZ.out.c0.2] at h
        have := Ven.row_sl Ven.seatC_len h
        unfold Rw.v at this
        rw [HZ.out.c0.1] at this
        exact this
       have hat : ∀ p : Ven.BelowOf wr, Calls Tryz.prog 20 #[.pointer (some ⟨base, 0, none⟩), .int .i64 s.kills[k].row, .int .i64 s.kills[k].x] p.w fun e w' => e = .returned (.int .i64 (atI s.seats s.kills[k].row s.kills[k].x)) ∧ w' = p.w := fun p => at_any s.seats _ _ base (z 0).a (z 0).c p.w (HK.out.next p.h).box.lt (by rw [← HZ.out.c0.1]; exact (HK.out.next p.h).box.cell 0 _ rfl) (hS0.next p.h)
       have hne : Nonempty (Ven.BelowOf wr) := ⟨⟨wr, Below.refl _ wr⟩⟩
       have HP := hidA HC2.1
       clear ha2 ha3 HC2 HC3 hS0
       generalize hf : s.kills[k] = f at r2 r3 hat
       have HF := hidA hf
       clear hf
       generalize hq : atI s.seats f.row f.x = q at hat
       have HQ := hidA hq
       clear hq
       go_wp2_with fail
       refine Ven.wp_region_quiet_below Ven.mixed (by kernel_rfl) ?_
       repeat (go_big_quiet_step ((go_at_call 20; exact Ven.Calls.below_of (Ven.same_world (hat _)))))
       refine wpQuiet_nil ?_
       intro _ hw'
       obtain ⟨p, hw''⟩ := hw'
       subst hw''
       have HK2 := hidA (HK.out.next p.h)
       clear HK P7 P8 r2 r3 hat hne
       have hkd : s.kills.drop k = f :: s.kills.drop (k + 1) := by rw [List.drop_eq_getElem_cons hk, HF.out]
       have hrow := row_slice HK2.out.row
       obtain ⟨av, cv, rfl⟩ := hrow
       by_cases hneg : q < 0
       ·have hkl : killsL s.seats s.kills [] = .error f.first := by
         rw [HKL.out, hkd]; unfold killsL; rw [HQ.out, if_pos hneg]
        have HO2 : Hid (oo = .error (2, (f.first.1, f.first.2))) := by
         have h := HW2.out; rw [hkl] at h; exact h
        clear hkl hkd
        obtain ⟨b5, o5, ha5, hc5, hm5, HC5⟩ := row_of (enc := fun k : Kill => spotC k.first) (k := 2) (fun _ => rfl) (HK2.out.rws.row 5 (by omega)) HZ.out.c5 hk
        have h5b : base ≤ b5 := ((HK2.out.rws.row 5 (by omega)).lt b5 (by unfold Rw.v; rw [ha5]; rfl)).1
        have pS : p.w.cell? ⟨base, 10, none⟩ = some (.slice (some ⟨b5, o5, none⟩) s.kills.length (z 5).c) := by rw [← ha5, ← HZ.out.c5.1]; exact HK2.out.box.cell 10 _ rfl
        have ra : p.w.cell? ⟨b5, o5 + k * 2, none⟩ = some (.int .i64 f.first.1) := by rw [← HF.out]; exact HC5.2 k hk 0 _ rfl
        have rb : p.w.cell? ⟨b5, o5 + k * 2 + 1, none⟩ = some (.int .i64 f.first.2) := by rw [← HF.out]; exact HC5.2 k hk 1 _ rfl
        have n1 : ¬ w.heap.size = b5 := by omega
        have n2 : ¬ b5 = w.heap.size := by omega
        have n3 : ¬ w.heap.size + 1 = b5 := by omega
        have n4 : ¬ b5 = w.heap.size + 1 := by omega
        have n5 : ¬ w.heap.size = base := by omega
        have n6 : ¬ base = w.heap.size := by omega
        have n7 : ¬ w.heap.size + 1 = base := by omega
        have n8 : ¬ base = w.heap.size + 1 := by omega
        have n9 : b5 < p.w.heap.size := HC5.1
        clear ha5 HC5
        have hv1 := box_low HV.out (HK2.out.low) q2l
        have hs1 := box_low HSP.out (HK2.out.low) q4l
        have v0 := hv1.cell 0 _ rfl
        have v1 := hv1.cell 1 _ rfl
        have v2 := hv1.cell 2 _ rfl
        have v3 := hv1.cell 3 _ rfl
        have v4 := hv1.cell 4 _ rfl
        have f0 := hv1.frozen 0
        have f1 := hv1.frozen 1
        have f2 := hv1.frozen 2
        have f3 := hv1.frozen 3
        have f4 := hv1.frozen 4
        have vl := hv1.lt
        have s0 := hs1.cell 0 _ rfl
        have s1 := hs1.cell 1 _ rfl
        have t0 := hs1.frozen 0
        have t1 := hs1.frozen 1
        have sl := hs1.lt
        have HBE : Hid (Below w.heap.size w p.w) := HLOW.out _ (HK2.out.low)
        clear hv1 hs1
        go_wp2_with fail
        go_region
        all_goals
         go_wp2_with fail
         refine bodyPost_ret (v := .tuple #[venZ, .int .i64 2, .agg #[.int .i64 f.first.1, .int .i64 f.first.2]]) (by simp [results, Tryz.results9, go_sem, v0, v1, v2, v3, v4, s0, s1]) rfl ?_
         refine ParseTo.bad HO2.out ?_
         exact ((Below.setCell (Below.setCell (Below.setCell (Below.setCell (Below.setCell (Below.setCell (Below.setCell HBE.out (by simp) _) (by simp) _) (by simp) _) (by simp) _) (by simp) _) (by simp) _) (by simp) _)).drew
       ·have hkl : killsL s.seats s.kills [] = if q ∈ K then .error f.word else killsL s.seats (s.kills.drop (k + 1)) (K ++ [q]) := by
         rw [HKL.out, hkd]; conv => lhs; unfold killsL
         rw [HQ.out, if_neg hneg]
        have HKQ := hidA hkl
        clear hkl hkd
        have p3 : p.w.cell? ⟨base, 3, none⟩ = some (.slice av K.length cv) := HK2.out.box.cell 3 _ rfl
        have q3l := HK2.out.box.lt
        go_wp2_with fail
        go_loopw [17] (fun j wz => ∃ jj : Nat, jj ≤ K.length ∧ j = .int .i64 jj ∧ Hid (wz = p.w) ∧ Hid (∀ i (hi : i < K.length), i < jj → K[i] ≠ q)) (fun j _ => K.length - (intOf j).toNat)
        case atStart => exact ⟨0, Nat.zero_le _, rfl, rfl, fun _ _ h => absurd h (by omega)⟩
        case round =>
         obtain ⟨jj, hj1, rfl, HWZ, HJ⟩ := hrel
         have hwz := HWZ.out
         clear HWZ
         subst hwz
         by_cases hj : jj < K.length
         ·have hjz : (jj : Int) < (K.length : Int) := by omega
          rcases Ven.row_sl Ven.intC_len HK2.out.row with ⟨_, h0⟩ | ⟨b6, o6, cp, hv, h1, h2, h3⟩
          ·rw [h0] at hj; cases hj
          ·injection hv with e1 e2 e3
           subst e1 e3
           have rj := h3.int jj hj
           by_cases he : K[jj] = q
           ·have he2 : (K[jj] == q) = true := by simpa using he
            have HO2 : Hid (oo = .error (2, (f.word.1, f.word.2))) := by
             have h := HW2.out; rw [HKQ.out, if_pos (by rw [← he]; exact List.getElem_mem hj)] at h; exact h
            obtain ⟨b5, o5, ha5, hc5, hm5, HC5⟩ := row_of (enc := fun k : Kill => spotC k.word) (k := 2) (fun _ => rfl) (HK2.out.rws.row 4 (by omega)) HZ.out.c4 hk
            have h5b : base ≤ b5 := ((HK2.out.rws.row 4 (by omega)).lt b5 (by unfold Rw.v; rw [ha5]; rfl)).1
            have pS : p.w.cell? ⟨base, 9, none⟩ = some (.slice (some ⟨b5, o5, none⟩) s.kills.length (z 4).c) := by rw [← ha5, ← HZ.out.c4.1]; exact HK2.out.box.cell 9 _ rfl
            have ra : p.w.cell? ⟨b5, o5 + k * 2, none⟩ = some (.int .i64 f.word.1) := by rw [← HF.out]; exact HC5.2 k hk 0 _ rfl
            have rb : p.w.cell? ⟨b5, o5 + k * 2 + 1, none⟩ = some (.int .i64 f.word.2) := by rw [← HF.out]; exact HC5.2 k hk 1 _ rfl
            have n1 : ¬ w.heap.size = b5 := by omega
            have n2 : ¬ b5 = w.heap.size := by omega
            have n3 : ¬ w.heap.size + 1 = b5 := by omega
            have n4 : ¬ b5 = w.heap.size + 1 := by omega
            have n5 : ¬ w.heap.size = base := by omega
            have n6 : ¬ base = w.heap.size := by omega
            have n7 : ¬ w.heap.size + 1 = base := by omega
            have n8 : ¬ base = w.heap.size + 1 := by omega
            have n9 : b5 < p.w.heap.size := HC5.1
            clear ha5 HC5
            have hv1 := box_low HV.out (HK2.out.low) q2l
            have hs1 := box_low HSP.out (HK2.out.low) q4l
            have v0 := hv1.cell 0 _ rfl
            have v1 := hv1.cell 1 _ rfl
            have v2 := hv1.cell 2 _ rfl
            have v3 := hv1.cell 3 _ rfl
            have v4 := hv1.cell 4 _ rfl
            have f0 := hv1.frozen 0
            have f1 := hv1.frozen 1
            have f2 := hv1.frozen 2
            have f3 := hv1.frozen 3
            have f4 := hv1.frozen 4
            have vl := hv1.lt
            have s0 := hs1.cell 0 _ rfl
            have s1 := hs1.cell 1 _ rfl
            have t0 := hs1.frozen 0
            have t1 := hs1.frozen 1
            have sl := hs1.lt
            have HBE : Hid (Below w.heap.size w p.w) := HLOW.out _ (HK2.out.low)
            clear hv1 hs1
            go_wp2_with fail
            go_region
            all_goals
             go_wp2_with fail
             refine bodyPost_ret (v := .tuple #[venZ, .int .i64 2, .agg #[.int .i64 f.word.1, .int .i64 f.word.2]]) (by simp [results, Tryz.results9, go_sem, v0, v1, v2, v3, v4, s0, s1]) rfl ?_
             refine ParseTo.bad HO2.out ?_
             exact ((Below.setCell (Below.setCell (Below.setCell (Below.setCell (Below.setCell (Below.setCell (Below.setCell HBE.out (by simp) _) (by simp) _) (by simp) _) (by simp) _) (by simp) _) (by simp) _) (by simp) _)).drew
           ·have he2 : (K[jj] == q) = false := by simpa using he
            have HJ2 : Hid (∀ i (hi : i < K.length), i < jj + 1 → K[i] ≠ q) := fun i hi h => by
             rcases Nat.lt_or_ge i jj with h' | h'
             ·exact HJ.out i hi h'
             ·have e : i = jj := by omega
              subst e; exact he
            clear h3
            go_wp2_with fail
            exact ⟨⟨jj + 1, by omega, by go_num, hidA trivial, HJ2⟩, by simp [intOf]; omega⟩
         ·have hjz : ¬ (jj : Int) < (K.length : Int) := by omega
          have hnq : ¬ q ∈ K := fun hm => by
           obtain ⟨i, hi, he⟩ := List.getElem_of_mem hm
           exact HJ.out i hi (by omega) he
          have HKL2 : Hid (killsL s.seats s.kills [] = killsL s.seats (s.kills.drop (k + 1)) (K ++ [q])) := by
           have h := HKQ.out; rw [if_neg hnq] at h; exact h
          have HK3 := hidA (HK2.out.next ((Below.refl _ p.w).alloc (Nat.le_refl _) (.cells #[.int .i64 q] 3)))
          have hk3 := HK3.out.hk
          have hlk := HZ.out.lk
          obtain ⟨i0, hi, hz0, hz1, hz2⟩ := Ven.info3
          go_wp2_with (at_builtin; refine wpList_append_own _ rfl _ _ 22 rfl kb 3 i0 (.int .i64 0) 1 8 Tryz.underlying22 hi hz0 hz1 hz2 rfl (by omega) _ _ _ rfl HK3.out.row ⟨p.w.heap.size, 0, none⟩ 1 1 [.int .i64 q] rfl ?qc1 ?qc2 ?qc3 ?qc4 ?qc5 ?qc6 ?_)
          case qc3 => rfl
          case qc4 => unfold maxLen; omega
          case qc5 => omega
          case qc6 => rw [World.size_alloc] at hk3; exact hk3
          intro v6 w6 hown6 hgr6 _
          obtain ⟨av6, cv6, rfl⟩ := row_slice hown6
          have hu6 := HK3.out.box.grown hgr6 (HK3.out.box.not_row (by decide) HK3.out.row)
          have y3 := hu6.cell 3 _ rfl
          have yf := hu6.frozen 3
          have yl := hu6.lt
          have HK6 := hidA (HK3.out.put q hown6 hgr6)
          have HL6 : Hid ((K ++ [q]).length = k + 1) := by
           have := HKk.out
           show _ = _
           rw [List.length_append, this]; rfl
          clear hown6 hgr6 hu6 hk3 p3
          go_wp2_with fail
          exact ⟨⟨k + 1, K ++ [q], _, by omega, by go_num, HL6, HKL2, HK6⟩, by simp [intOf]; omega⟩
      ·have hkz : ¬ (k : Int) < (s.kills.length : Int) := by omega
       have hkl : killsL s.seats s.kills [] = .ok K := by rw [HKL.out, List.drop_of_length_le (by omega)]; rfl
       have HO2 : Hid (oo = .ok ⟨s.seats, s.gap, s.radius, K, s.poles⟩) := by have h := HW2.out; rw [hkl] at h; exact h
       clear hkl
       obtain ⟨av, cv, rfl⟩ := row_slice HK.out.row
       have hs0 : Ven.Sl 4 seatC wr (.slice (z 0).a s.seats.length (z 0).c) s.seats := by
        have h := HK.out.rws.row 0 (by omega)
        rw [HZ.out.c0.1, HZ.out.c0.2] at h
        have := Ven.row_sl Ven.seatC_len h
        unfold Rw.v at this
        rw [HZ.out.c0.1] at this
        exact this
       have hpr : wr.ownsRow base 74 3 (.slice (z 1).a s.poles.length (z 1).c) s.poles.length (s.poles.flatMap poleC) := by
        have h := HK.out.rws.row 1 (by omega)
        rw [HZ.out.c1.1, HZ.out.c1.2] at h
        unfold Rw.v at h
        rw [HZ.out.c1.1] at h
        exact h
       have hven : VenAt wr (z 0).a s.seats.length (z 0).c av K.length cv (z 1).a s.poles.length (z 1).c ⟨s.seats, s.gap, s.radius, K, s.poles⟩ := ⟨hs0, Ven.row_sl Ven.intC_len HK.out.row, Ven.row_sl Ven.poleC_len hpr⟩
       have hnorm := Ven.rnorm_own _ _ _ _ _ _ _ _ _ ⟨s.seats, s.gap, s.radius, K, s.poles⟩ wr hven (by have := HZ.out.ls; exact this) (by show K.length ≤ 4096; omega)
       simp only at hnorm
       have u0 : wr.cell? ⟨base, 0, none⟩ = some (.slice (z 0).a s.seats.length (z 0).c) := by rw [← HZ.out.c0.1]; exact HK.out.box.cell 0 _ rfl
       have u1 : wr.cell? ⟨base, 1, none⟩ = some (.int .i64 s.gap) := HK.out.box.cell 1 _ rfl
       have u2 : wr.cell? ⟨base, 2, none⟩ = some (.int .i64 s.radius) := HK.out.box.cell 2 _ rfl
       have u3 : wr.cell? ⟨base, 3, none⟩ = some (.slice av K.length cv) := HK.out.box.cell 3 _ rfl
       have u4 : wr.cell? ⟨base, 4, none⟩ = some (.slice (z 1).a s.poles.length (z 1).c) := by rw [← HZ.out.c1.1]; exact HK.out.box.cell 4 _ rfl
       have ul := HK.out.box.lt
       have HPR := hidA hpr
       have hbb := HK.out.low
       have hwb : base ≤ wr.heap.size := Nat.le_trans HK.out.hb HK.out.hk
       clear hven hs0 hpr
       go_wp2_with fail
       refine hnorm.mono ?_
       clear hnorm u0 u1 u2 u3 u4 ul p7
       rintro e w5 ⟨r, hr, ho, hb5⟩
       have HR := hidA hr
       have hv1 := (box_low HV.out hbb q2l).next hb5
       have hs1 := (box_low HSP.out hbb q4l).next hb5
       have HB5 : Hid (Below w.heap.size w w5) := HLOW.out _ (hbb.trans (hb5.mono hwb))
       have HPR5 := hidA (row_next HPR.out hb5)
       have hz5 : w.heap.size + 1 < wr.heap.size := by omega
       clear hr hb5 hbb HK HKL HW2
       cases r with
       | none =>
        obtain rfl := ho
        have v0 := hv1.cell 0 _ rfl
        have v1 := hv1.cell 1 _ rfl
        have v2 := hv1.cell 2 _ rfl
        have v3 := hv1.cell 3 _ rfl
        have v4 := hv1.cell 4 _ rfl
        have f0 := hv1.frozen 0
        have f1 := hv1.frozen 1
        have f2 := hv1.frozen 2
        have f3 := hv1.frozen 3
        have f4 := hv1.frozen 4
        have vl := hv1.lt
        have s0 := hs1.cell 0 _ rfl
        have s1 := hs1.cell 1 _ rfl
        have t0 := hs1.frozen 0
        have t1 := hs1.frozen 1
        have sl := hs1.lt
        clear hv1 hs1
        go_wp2_with fail
        refine bodyPost_ret (v := .tuple #[venZ, .int .i64 0, .agg #[.int .i64 0, .int .i64 0]]) (by simp [results, Tryz.results9, go_sem, v0, v1, v2, v3, v4, s0, s1, vl, sl]) rfl ?_
        obtain rfl := HO2.out
        refine ⟨⟨none, HR.out, fun U h => by cases h⟩, ?_⟩
        have hh := HB5.out.size
        exact (Below.setCell (Below.setCell (Below.setCell (Below.setCell (Below.setCell (Below.setCell (Below.setCell HB5.out (by simp) _) (by simp) _) (by simp) _) (by simp) _) (by simp) _) (by simp) _) (by simp) _).alloc (by simpa using hh) _
       | some U =>
        obtain ⟨b1, m1, d1, b2, m2, d2, rfl, hos, hok, hop, _⟩ := ho
        have HOS := hidA hos
        have HOK := hidA hok
        have HOP := hidA hop
        clear hos hok hop
        have v0 := hv1.cell 0 _ rfl
        have v1 := hv1.cell 1 _ rfl
        have v2 := hv1.cell 2 _ rfl
        have v3 := hv1.cell 3 _ rfl
        have v4 := hv1.cell 4 _ rfl
        have f0 := hv1.frozen 0
        have f1 := hv1.frozen 1
        have f2 := hv1.frozen 2
        have f3 := hv1.frozen 3
        have f4 := hv1.frozen 4
        have vl := hv1.lt
        have s0 := hs1.cell 0 _ rfl
        have s1 := hs1.cell 1 _ rfl
        have t0 := hs1.frozen 0
        have t1 := hs1.frozen 1
        have sl := hs1.lt
        clear hv1 hs1
        go_wp2_with fail
        refine bodyPost_ret (v := .tuple #[venV b1 m1 d1 U.gap U.radius b2 m2 d2 (z 1).a s.poles.length (z 1).c, .int .i64 0, .agg #[.int .i64 0, .int .i64 0]]) (by simp [results, Tryz.results9, go_sem, v0, v1, v2, v3, v4, s0, s1, vl, sl]) rfl ?_
        obtain rfl := HO2.out
        have hh := HB5.out.size
        refine ⟨⟨some U, HR.out, fun U' h => ?_⟩, ?_⟩
        ·obtain rfl : U = U' := by injection h
         refine ⟨b1, m1, d1, b2, m2, d2, (z 1).a, s.poles.length, (z 1).c, rfl, ?_, ?_, ?_⟩
         ·exact (((((HOS.out.set5 _ (by omega) _ _ _ _ _).set _ (by omega) 0 _).set _ (by omega) 1 _).next (below_alloc _ _))).sl
         ·exact (((((HOK.out.set5 _ (by omega) _ _ _ _ _).set _ (by omega) 0 _).set _ (by omega) 1 _).next (below_alloc _ _))).sl
         ·rw [HOP.out]
          exact Ven.row_sl Ven.poleC_len (row_next (row_lows (row_lows (row_lows (row_lows (row_lows (row_lows (row_lows HPR5.out _ 0 q2l _) _ 1 q2l _) _ 2 q2l _) _ 3 q2l _) _ 4 q2l _) _ 0 q4l _) _ 1 q4l _) (below_alloc _ _))
        ·exact (Below.setCell (Below.setCell (Below.setCell (Below.setCell (Below.setCell (Below.setCell (Below.setCell HB5.out (by simp) _) (by simp) _) (by simp) _) (by simp) _) (by simp) _) (by simp) _) (by simp) _).alloc (by simpa using hh) _
end Go.Proofs.YtgpkdjhllekihaaGreatDoor.Ask

namespace Go.Proofs.YtgpkdjhllekihaaGreatDoor.Par
set_option linter.unusedVariables false
set_option maxRecDepth 100000
open Go.Proofs.YtgpkdjhllekihaaGreatDoor.Ven (Seat Pole Ven)

/-- The lines of tokens, without places. -/
def linesD (e : Int × Int) : Nat → List T → St → Except (Int × Int) St
 | 0, _, s => .ok s
 | f + 1, r, s => if r = [] then .ok s else
   match lineL (r.take (Tok.lineLen r)) (if Tok.lineLen r < r.length then spotT (r[Tok.lineLen r]!) else e) s with
   | .error p => .error p
   | .ok s' => linesD e f (r.drop (Tok.lineLen r + 1)) s'
theorem linesD_of (ts : List T) (e : Int × Int) : ∀ (f a : Nat) (s : St), linesL ts e f a s = linesD e f (ts.drop a) s
 | 0, a, s => rfl
 | f + 1, a, s => by
  rw [linesL_succ]
  unfold linesD
  by_cases ha : a < ts.length
  ·have hne : ¬ ts.drop a = [] := fun hc => by have := congrArg List.length hc; rw [List.length_drop] at this; simp at this; omega
   have hdl : (ts.drop a).length = ts.length - a := List.length_drop
   have hle := Tok.lineLen_le (ts.drop a)
   rw [if_pos ha, if_neg hne]
   have he : endL ts a e = if Tok.lineLen (ts.drop a) < (ts.drop a).length then spotT ((ts.drop a)[Tok.lineLen (ts.drop a)]!) else e := by
    unfold endL
    by_cases h : a + Tok.lineLen (ts.drop a) < ts.length
    ·rw [if_pos h, if_pos (by omega), getElem!_pos ts _ h, getElem!_pos (ts.drop a) _ (by omega), List.getElem_drop]
    ·rw [if_neg h, if_neg (by omega)]
   rw [he]
   have hn : ts.drop (Tok.lineNext ts a).toNat = (ts.drop a).drop (Tok.lineLen (ts.drop a) + 1) := by
    unfold Tok.lineNext
    rw [List.drop_drop]
    by_cases h : a + Tok.lineLen (ts.drop a) < ts.length
    ·rw [if_pos h]; congr 1
    ·rw [if_neg h, List.drop_of_length_le (by omega), List.drop_of_length_le (by omega)]
   unfold Tok.lineTs
   cases lineL ((ts.drop a).take (Tok.lineLen (ts.drop a))) (if Tok.lineLen (ts.drop a) < (ts.drop a).length then spotT ((ts.drop a)[Tok.lineLen (ts.drop a)]!) else e) s with
   | error p => rfl
   | ok s' => simp only []; rw [linesD_of ts e f _ s', hn]
  ·rw [if_neg ha, if_pos (List.drop_of_length_le (by omega))]
def linesE (e : Int × Int) (r : List T) (s : St) : Except (Int × Int) St := linesD e (r.length + 1) r s
/-- A text from its line on: how its tokens end, and the state behind its lines. -/
def scan (l : List UInt8) (li : Int) (s : St) : (Int × Int × Int) × Except (Int × Int) St := ((Tok.allP l li 1).2, linesE ((Tok.allP l li 1).2.1, (Tok.allP l li 1).2.2.1) (Tok.allP l li 1).1 s)
theorem readL_scan {l : List UInt8} (h : ¬ 1048576 < l.length) : readL l = if (scan l 1 St.zero).1.2.2 = 0 then (match (scan l 1 St.zero).2 with | .error p => .error (2, p) | .ok s => (match wholeL s ((scan l 1 St.zero).1.1, (scan l 1 St.zero).1.2.1) with | .error p => .error (2, p) | .ok V => .ok V)) else .error ((scan l 1 St.zero).1.2.2, (scan l 1 St.zero).1.1, (scan l 1 St.zero).1.2.1) := by
 unfold readL scan
 rw [if_neg h, Tok.allOf_P]
 rcases Tok.allP l 1 1 with ⟨ts, li, co, code⟩
 simp only []
 unfold linesE
 rw [linesD_of ts (li, co) (ts.length + 1) 0 St.zero, List.drop_zero]
 all_goals
  by_cases hc : code = 0
  ·rw [if_pos hc, if_pos hc]
   cases linesD (li, co) (ts.length + 1) ts St.zero with
   | error p => rfl
   | ok s => simp only []; cases wholeL s (li, co) <;> rfl
  ·rw [if_neg hc, if_neg hc]
end Go.Proofs.YtgpkdjhllekihaaGreatDoor.Par

namespace Go.Proofs.YtgpkdjhllekihaaGreatDoor.Par
set_option linter.unusedVariables false
set_option maxRecDepth 100000
open Go.Proofs.YtgpkdjhllekihaaGreatDoor.Ven
open Go.Proofs.YtgpkdjhllekihaaGreatDoor.Prs (atI wordK kindL letsK)

structure GoodSt (s : St) : Prop where
 seat : ∀ x ∈ s.seats, seatB x = true
 apart : s.seats.Pairwise keyNe
 ls : s.seats.length ≤ 4096
 gap : s.gap = 0 ∨ lengthB s.gap = true
 radius : distB s.radius = true
 pole : ∀ p ∈ s.poles, poleB p = true
 lp : s.poles.length ≤ 200
 lk : s.kills.length ≤ 200
theorem GoodSt.zero : GoodSt St.zero := ⟨by simp [St.zero], by simp [St.zero], by simp [St.zero], .inl rfl, by decide, by simp [St.zero], by simp [St.zero], by simp [St.zero]⟩
theorem atI_neg {S : List Seat} {r x : Int} (h : atI S r x < 0) : ∀ a ∈ S, ¬ (a.row = r ∧ a.x = x) := by
 intro a ha hc
 unfold atI at h
 cases hf : S.findIdx? (fun s => s.row == r && s.x == x) with
 | some i => rw [hf] at h; simp at h; omega
 | none =>
  rw [List.findIdx?_eq_none_iff] at hf
  have := hf a ha
  simp [hc.1, hc.2] at this
theorem GoodSt.add {s s' : St} {k : Nat} {t : T} {rest : List T} (h : GoodSt s) (h1 : 1 ≤ k) (h7 : k ≤ 7) (hn : rest.length = numK k) (hr : rangeL k 0 rest = none) (ha : addL k t rest s = some s') : GoodSt s' := by
 have hl : ∀ j, j < rest.length → letsK k j (nOf rest j) = true := fun j hj => by
  have := range_each k rest 0 hr j hj
  rw [Nat.zero_add] at this
  unfold nOf; rw [getElem!_pos rest j hj]; exact this
 have hk : k = 1 ∨ k = 2 ∨ k = 3 ∨ k = 4 ∨ k = 5 ∨ k = 6 ∨ k = 7 := by omega
 have seatCase : ∀ kd : Int, kindB kd = true → rest.length = 3 → rowB (nOf rest 0) = true → coordB (nOf rest 1) = true → coordB (nOf rest 2) = true → atI s.seats (nOf rest 0) (nOf rest 1) < 0 ∧ s.seats.length < 4096 → GoodSt { s with seats := s.seats ++ [⟨nOf rest 0, nOf rest 1, nOf rest 2, kd⟩] } := by
  intro kd hkd h3 hb0 hb1 hb2 hc
  refine { h with seat := fun x hx => ?_, apart := ?_, ls := by simp; omega }
  ·rcases List.mem_append.1 hx with hx | hx
   ·exact h.seat x hx
   ·rw [List.mem_singleton] at hx; subst hx
    unfold seatB standsB
    simp [hb0, hb1, hb2, hkd]
  ·rw [List.pairwise_append]
   refine ⟨h.apart, by simp, fun a ha b hb => ?_⟩
   rw [List.mem_singleton] at hb; subst hb
   exact atI_neg hc.1 a ha
 rcases hk with rfl | rfl | rfl | rfl | rfl | rfl | rfl
 ·have l0 := hl 0 (by rw [hn]; decide)
  have l1 := hl 1 (by rw [hn]; decide)
  have l2 := hl 2 (by rw [hn]; decide)
  unfold addL seatOf at ha
  simp only [show ¬ ((1 : Nat) = 5) by decide, show ¬ ((1 : Nat) = 6) by decide, show ¬ ((1 : Nat) = 7) by decide, show ¬ ((1 : Nat) = 4) by decide, if_false] at ha
  split at ha
  ·rename_i hc; injection ha with ha; subst ha; exact seatCase _ (by decide) hn l0 l1 l2 hc
  ·cases ha
 ·have l0 := hl 0 (by rw [hn]; decide)
  have l1 := hl 1 (by rw [hn]; decide)
  have l2 := hl 2 (by rw [hn]; decide)
  unfold addL seatOf at ha
  simp only [show ¬ ((2 : Nat) = 5) by decide, show ¬ ((2 : Nat) = 6) by decide, show ¬ ((2 : Nat) = 7) by decide, show ¬ ((2 : Nat) = 4) by decide, if_false] at ha
  split at ha
  ·rename_i hc; injection ha with ha; subst ha; exact seatCase _ (by decide) hn l0 l1 l2 hc
  ·cases ha
 ·have l0 := hl 0 (by rw [hn]; decide)
  have l1 := hl 1 (by rw [hn]; decide)
  have l2 := hl 2 (by rw [hn]; decide)
  unfold addL seatOf at ha
  simp only [show ¬ ((3 : Nat) = 5) by decide, show ¬ ((3 : Nat) = 6) by decide, show ¬ ((3 : Nat) = 7) by decide, show ¬ ((3 : Nat) = 4) by decide, if_false] at ha
  split at ha
  ·rename_i hc; injection ha with ha; subst ha; exact seatCase _ (by decide) hn l0 l1 l2 hc
  ·cases ha
 ·have l0 := hl 0 (by rw [hn]; decide)
  have l1 := hl 1 (by rw [hn]; decide)
  have l2 := hl 2 (by rw [hn]; decide)
  unfold addL at ha
  simp only [show ¬ ((4 : Nat) = 5) by decide, show ¬ ((4 : Nat) = 6) by decide, show ¬ ((4 : Nat) = 7) by decide, if_false, if_true] at ha
  split at ha
  ·rename_i hc; injection ha with ha; subst ha
   refine { h with pole := fun p hp => ?_, lp := by simp; omega }
   rcases List.mem_append.1 hp with hp | hp
   ·exact h.pole p hp
   ·rw [List.mem_singleton] at hp; subst hp
    have l0' : coordB (nOf rest 0) = true := l0
    have l1' : coordB (nOf rest 1) = true := l1
    have l2' : lengthB (nOf rest 2) = true := l2
    unfold poleB standsB
    simp [l0', l1', l2']
  ·cases ha
 ·have l0 := hl 0 (by rw [hn]; decide)
  unfold addL at ha
  simp only [if_true] at ha
  split at ha
  ·injection ha with ha; subst ha; exact { h with gap := .inr l0 }
  ·cases ha
 ·have l0 := hl 0 (by rw [hn]; decide)
  unfold addL at ha
  simp only [show ¬ ((6 : Nat) = 5) by decide, if_false, if_true] at ha
  split at ha
  ·injection ha with ha; subst ha; exact { h with radius := l0 }
  ·cases ha
 ·unfold addL at ha
  simp only [show ¬ ((7 : Nat) = 5) by decide, show ¬ ((7 : Nat) = 6) by decide, if_false, if_true] at ha
  split at ha
  ·rename_i hc; injection ha with ha; subst ha; exact { h with lk := by simp; omega }
  ·cases ha
theorem GoodSt.line {s s' : St} {ts : List T} {e : Int × Int} (h : GoodSt s) (hl : lineL ts e s = .ok s') : GoodSt s' := by
 cases ts with
 | nil => injection hl with hl; subst hl; exact h
 | cons t rest =>
  obtain ⟨tk, tn, tl, tc, tt⟩ := t
  cases ht : tellL (tk, tn, tl, tc, tt) rest e with
  | some p => rw [lineL_bad ht] at hl; cases hl
  | none =>
   obtain ⟨k, k1, k7, rfl, hkk, hkn, hkr⟩ := tell_none ht
   cases ha : addL (kindL (wordK k)) (tk, tn, tl, tc, wordK k) rest s with
   | none => rw [lineL_no ht ha] at hl; cases hl
   | some s2 =>
    rw [lineL_add ht ha] at hl
    injection hl with hl; subst hl
    rw [hkk] at ha
    exact h.add k1 k7 hkn hkr ha
theorem GoodSt.lines {ts : List T} {e : Int × Int} : ∀ (f a : Nat) (s s' : St), GoodSt s → linesL ts e f a s = .ok s' → GoodSt s'
 | 0, _, s, s', h, hl => by injection hl with hl; subst hl; exact h
 | f + 1, a, s, s', h, hl => by
  rw [linesL_succ] at hl
  split at hl
  ·cases h1 : lineL (Tok.lineTs ts a) (endL ts a e) s with
   | error p => rw [h1] at hl; cases hl
   | ok s2 => rw [h1] at hl; exact GoodSt.lines f _ s2 s' (h.line h1) hl
  ·injection hl with hl; subst hl; exact h
theorem killsL_good {S : List Seat} : ∀ (ks : List Kill) (acc K : List Int), (∀ k ∈ acc, isSeatB k S.length = true) → killsL S ks acc = .ok K → (∀ k ∈ K, isSeatB k S.length = true) ∧ K.length = acc.length + ks.length
 | [], acc, K, h, hk => by injection hk with hk; subst hk; exact ⟨h, rfl⟩
 | f :: r, acc, K, h, hk => by
  unfold killsL at hk
  split at hk
  ·cases hk
  ·rename_i h0
   split at hk
   ·cases hk
   ·have := killsL_good r (acc ++ [atI S f.row f.x]) K (fun k hkm => by
     rcases List.mem_append.1 hkm with hkm | hkm
     ·exact h k hkm
     ·rw [List.mem_singleton] at hkm; subst hkm
      have := atI_lt S f.row f.x
      unfold isSeatB; simp; omega) hk
    refine ⟨this.1, ?_⟩
    rw [this.2]; simp; omega
structure GoodV (V : Ven) : Prop where
 seat : ∀ x ∈ V.seats, seatB x = true
 apart : V.seats.Pairwise keyNe
 one : 1 ≤ V.seats.length
 ls : V.seats.length ≤ 4096
 gap : lengthB V.gap = true
 radius : distB V.radius = true
 pole : ∀ p ∈ V.poles, poleB p = true
 lp : V.poles.length ≤ 200
 kill : ∀ k ∈ V.kills, isSeatB k V.seats.length = true
 lk : V.kills.length ≤ 200
theorem readL_good {l : List UInt8} {V : Ven} (h : readL l = .ok V) : GoodV V := by
 unfold readL at h
 split at h
 ·cases h
 ·rcases hA : Tok.allOf l with ⟨ts, li, co, code⟩
  simp only [hA] at h
  split at h
  ·cases hL : linesL ts (li, co) (ts.length + 1) 0 St.zero with
   | error p => rw [hL] at h; cases h
   | ok s =>
    rw [hL] at h
    have hs := GoodSt.lines _ _ _ _ GoodSt.zero hL
    cases hw : wholeL s (li, co) with
    | error p => simp only [hw] at h; cases h
    | ok V' =>
     simp only [hw] at h
     injection h with h; subst h
     unfold wholeL at hw
     split at hw
     ·cases hw
     ·rename_i hne
      cases hk : killsL s.seats s.kills [] with
      | error p => rw [hk] at hw; cases hw
      | ok K =>
       rw [hk] at hw
       injection hw with hw; subst hw
       obtain ⟨k1, k2⟩ := killsL_good s.kills [] K (by simp) hk
       have hsl : ¬ s.seats = [] := fun hc => hne (.inl hc)
       have hg : ¬ s.gap = 0 := fun hc => hne (.inr hc)
       refine ⟨hs.seat, hs.apart, ?_, hs.ls, hs.gap.resolve_left hg, hs.radius, hs.pole, hs.lp, k1, ?_⟩
       ·show 1 ≤ s.seats.length
        have : ¬ s.seats.length = 0 := fun hc => hsl (List.length_eq_zero_iff.1 hc)
        omega
       ·show K.length ≤ 200
        rw [k2]; have := hs.lk; simp; omega
  ·cases h
theorem posOf_few {V : Ven} {ord : List Nat} (ho : IsOrder V.seats ord) : (posOf V.kills ord V.seats.length).length ≤ V.kills.length := by
 have hn : ord.Nodup := ho.perm.nodup_iff.2 List.nodup_range
 have hlen := ho.length
 have hnd : ((List.range V.seats.length).filter (fun j => markB V.kills ord[j]!)).Nodup := List.nodup_range.filter _
 have hsub : ((List.range V.seats.length).filter (fun j => markB V.kills ord[j]!)).map (fun j => ((ord[j]! : Nat) : Int)) ⊆ V.kills := by
  intro x hx
  obtain ⟨j, hj, rfl⟩ := List.mem_map.1 hx
  rw [List.mem_filter] at hj
  unfold markB at hj
  exact of_decide_eq_true hj.2
 have hinj : (((List.range V.seats.length).filter (fun j => markB V.kills ord[j]!)).map (fun j => ((ord[j]! : Nat) : Int))).Nodup := by
  unfold List.Nodup
  rw [List.pairwise_map]
  refine List.Pairwise.imp_of_mem ?_ hnd
  intro a b ha hb hab hc
  rw [List.mem_filter, List.mem_range] at ha hb
  rw [getElem!_pos ord a (by omega), getElem!_pos ord b (by omega)] at hc
  exact hab ((List.getElem_inj hn).1 (by omega))
 have := hinj.length_le_of_subset hsub
 unfold posOf
 simpa using this
/-- A good venue is sorted, and then it may be. -/
theorem norm_good {V : Ven} (hV : GoodV V) {r : Option Ven} (h : NormTo V r) : ∃ ord, IsOrder V.seats ord ∧ r = some (normU V ord) ∧ mayB (normU V ord) = true := by
 rcases h with ⟨_, h⟩ | ⟨_, _, _, ord, ho, hr⟩
 ·exfalso
  rcases h with h | h | h
  ·have := hV.ls; omega
  ·have := hV.lp; omega
  ·rw [List.all_eq_true.2 hV.kill] at h; cases h
 ·have hm : mayB (normU V ord) = true := by
   have hp := pick_perm ho
   have hpl : (pick V.seats ord).length = V.seats.length := hp.length_eq
   unfold mayB
   simp only [Bool.and_eq_true]
   refine ⟨⟨⟨⟨?_, hV.gap⟩, hV.radius⟩, ?_⟩, ?_⟩
   ·refine (seatsB_iff _).2 ⟨?_, ?_, fun s hs => hV.seat s (hp.mem_iff.1 hs), pick_rising ho hV.apart⟩
    ·show 1 ≤ (pick V.seats ord).length; rw [hpl]; exact hV.one
    ·show (pick V.seats ord).length ≤ 4096; rw [hpl]; exact hV.ls
   ·refine (killsB_iff _ _).2 ⟨Nat.le_trans (posOf_few ho) hV.lk, fun k hk => ?_, posOf_rising _ _ _⟩
    obtain ⟨j, hj, _, rfl⟩ := (mem_posOf _ _ _ _).1 hk
    unfold isSeatB
    show (decide (0 ≤ (j : Int)) && decide ((j : Int) < ((pick V.seats ord).length : Int))) = true
    rw [hpl]; simp; omega
   ·exact (polesB_iff _).2 ⟨hV.lp, hV.pole⟩
  exact ⟨ord, ho, by rw [hr, if_pos hm], hm⟩
end Go.Proofs.YtgpkdjhllekihaaGreatDoor.Par

namespace Go.Proofs.YtgpkdjhllekihaaGreatDoor.Par
set_option linter.unusedVariables false
set_option maxRecDepth 100000
open Go.RowKit Go.Extern.Stop Go.Stop Go.Extern

theorem as_nil (t : Value) (w : World) :
  Calls Tryz.prog 28 #[.nilIface, t] w fun e w' => e = .returned (.bool false) ∧ w' = w := by
 go_enter Tryz.func28, Tryz.ntmps28
 go_wp2
 go_ret
 exact ⟨rfl, rfl⟩

theorem w_valueOf85 (t : Addr) (w : World) : (ReflectliteValue.unpack (.iface 88 (.pointer (some t)))).run Tryz.prog w
  = .ok (.agg #[.pointer (some ⟨6, 88, none⟩), .pointer (some ⟨w.heap.size, 0, none⟩), .int .u64 150]) (w.alloc (.cells #[.pointer (some t)] 88)) := by kernel_rfl
theorem w_type85 (a : Addr) (w : World) : (ReflectliteValue.methodAny (ReflectliteValue.valueError "reflectlite.Value.Type" 0) (fun t _ _ _ => ReflectliteType.toType t) #[.agg #[.pointer (some ⟨6, 88, none⟩), .pointer (some a), .int .u64 150]]).run Tryz.prog w
  = .ok (.iface 152 (.agg #[.pointer (some ⟨6, 88, none⟩)])) w := by kernel_rfl
theorem w_methodKind (h : Value) (w : World) : (Go.method 361 152 (.agg #[h]) "Kind").run Tryz.prog w = .ok (169, h) w := by kernel_rfl
theorem w_kind85 (w : World) : ((ReflectliteType.abiMethod fun t => (fun a : Nat => Value.int IntKind.u8 (a : Int)) <$> Rtype.kind t) #[.pointer (some ⟨6, 88, none⟩)]).run Tryz.prog w = .ok (.int .u8 22) w := by kernel_rfl
theorem w_kind41 (w : World) : ((ReflectliteType.abiMethod fun t => (fun a : Nat => Value.int IntKind.u8 (a : Int)) <$> Rtype.kind t) #[.pointer (some ⟨6, 76, none⟩)]).run Tryz.prog w = .ok (.int .u8 25) w := by kernel_rfl

theorem rlm (z : Sem Value) (f : TypeId → Addr → Nat → Nat → Sem Value) (v : Value) :
  ReflectliteValue.method z f #[v] = (do match ← ReflectliteValue.parts v with | none => z | some (t, a, fl) => f t a fl (fl % 32)) := rfl
theorem w_parts85 (a : Addr) (w : World) : (ReflectliteValue.parts (.agg #[.pointer (some ⟨6, 88, none⟩), .pointer (some a), .int .u64 150])).run Tryz.prog w = .ok (some (88, a, 150)) w := by kernel_rfl
theorem w_isNil85 (a p : Addr) (W : World) (ha : W.cell? a = some (.pointer (some p))) :
  (ReflectliteValue.method (ReflectliteValue.valueError "reflectlite.Value.IsNil" 0) ReflectliteValue.isNil #[.agg #[.pointer (some ⟨6, 88, none⟩), .pointer (some a), .int .u64 150]]).run Tryz.prog W = .ok (.bool false) W := by
 rw [rlm]
 simp only [Sem.run_bind, w_parts85, Result.andThen]
 simp [ReflectliteValue.isNil, loadVar, isAgg, underlying, Tryz.underlying88, ha, Result.andThen]

theorem w_methodElem (h : Value) (w : World) : (Go.method 361 152 (.agg #[h]) "Elem").run Tryz.prog w = .ok (182, .agg #[h]) w := by kernel_rfl
theorem w_methodImplements (h : Value) (w : World) : (Go.method 361 152 (.agg #[h]) "Implements").run Tryz.prog w = .ok (183, .agg #[h]) w := by kernel_rfl
theorem w_methodAssignableTo (h : Value) (w : World) : (Go.method 361 152 (.agg #[h]) "AssignableTo").run Tryz.prog w = .ok (180, .agg #[h]) w := by kernel_rfl
theorem w_elem85 (w : World) : (ReflectliteType.method ReflectliteType.elem #[.agg #[.pointer (some ⟨6, 88, none⟩)]]).run Tryz.prog w = .ok (.iface 152 (.agg #[.pointer (some ⟨6, 76, none⟩)])) w := by kernel_rfl
theorem w_implements41 (w : World) : (ReflectliteType.relation "Implements" ReflectliteType.implements_ #[.agg #[.pointer (some ⟨6, 76, none⟩)], .iface 152 (.agg #[.pointer (some ⟨6, 35, none⟩)])]).run Tryz.prog w = .ok (.bool true) w := by kernel_rfl
theorem w_typeOf41 (v : Value) (w : World) : (ReflectliteType.typeOf #[.iface 76 v]).run Tryz.prog w = .ok (.iface 152 (.agg #[.pointer (some ⟨6, 76, none⟩)])) w := by kernel_rfl
theorem w_assignable41 (w : World) : (ReflectliteType.relation "AssignableTo" ReflectliteType.assignableTo #[.agg #[.pointer (some ⟨6, 76, none⟩)], .iface 152 (.agg #[.pointer (some ⟨6, 76, none⟩)])]).run Tryz.prog w = .ok (.bool true) w := by kernel_rfl
theorem w_valueOf41 (c li co : Int) (w : World) : (ReflectliteValue.unpack (wrongV c li co)).run Tryz.prog w
  = .ok (.agg #[.pointer (some ⟨6, 76, none⟩), .pointer (some ⟨w.heap.size, 0, none⟩), .int .u64 153]) (w.alloc (.cells #[.int .i64 c, .int .i64 li, .int .i64 co] 76)) := by kernel_rfl

theorem w_elemOf85 (w : World) : (Rtype.elem? 88).run Tryz.prog w = .ok (some 76) w := by kernel_rfl
theorem w_mk41 (p : Addr) (w : World) : (ReflectliteValue.mk 76 p ReflectliteValue.flagAddr).run Tryz.prog w = .ok (.agg #[.pointer (some ⟨6, 76, none⟩), .pointer (some p), .int .u64 409]) w := by kernel_rfl
theorem w_elemV85 (a p : Addr) (W : World) (ha : W.cell? a = some (.pointer (some p))) :
  (ReflectliteValue.method (ReflectliteValue.valueError "reflectlite.Value.Elem" 0) ReflectliteValue.elem #[.agg #[.pointer (some ⟨6, 88, none⟩), .pointer (some a), .int .u64 150]]).run Tryz.prog W
   = .ok (.agg #[.pointer (some ⟨6, 76, none⟩), .pointer (some p), .int .u64 409]) W := by
 rw [rlm]
 simp only [Sem.run_bind, w_parts85, Result.andThen]
 simp [ReflectliteValue.elem, loadVar, isAgg, underlying, Tryz.underlying88, ha, Result.andThen, w_elemOf85, w_mk41]
theorem rls (v x : Value) : ReflectliteValue.set #[v, x] = (do
  let (some (dst, a, fl), some (src, b, _)) := (← ReflectliteValue.parts v, ← ReflectliteValue.parts x)
   | unsupported (.noEntry "extern/(internal/reflectlite.Value).Set.zeroValue")
  if fl / ReflectliteValue.flagAddr % 2 == 0 then unsupported (.noEntry "extern/(internal/reflectlite.Value).Set.unaddressable")
  let val ← loadVar src b
  if ← Rtype.directlyAssignable dst src then storeVar dst a val
  else if ← Rtype.implements dst src then
   if (← Rtype.kind src) == 20 then
    match val with
    | .nilIface => unsupported (.noEntry "extern/reflectlite: a nil value of one interface type handed on as a value of another")
    | _ => storeVar dst a val
   else storeVar dst a (.iface src val)
  else panicString ("reflectlite.Set: value of type " ++ (← Rtype.spelt src) ++ " is not assignable to type " ++ (← Rtype.spelt dst))
  pure (.tuple #[])) := rfl
theorem w_parts41a (a : Addr) (w : World) : (ReflectliteValue.parts (.agg #[.pointer (some ⟨6, 76, none⟩), .pointer (some a), .int .u64 409])).run Tryz.prog w = .ok (some (76, a, 409)) w := by kernel_rfl
theorem w_parts41 (a : Addr) (w : World) : (ReflectliteValue.parts (.agg #[.pointer (some ⟨6, 76, none⟩), .pointer (some a), .int .u64 153])).run Tryz.prog w = .ok (some (76, a, 153)) w := by kernel_rfl
theorem w_direct41 (w : World) : (Rtype.directlyAssignable 76 76).run Tryz.prog w = .ok true w := by kernel_rfl
theorem w_agg41 (w : World) : (isAgg 76).run Tryz.prog w = .ok true w := by kernel_rfl
theorem w_size41 (w : World) : (sizeOf 76).run Tryz.prog w = .ok 3 w := by kernel_rfl
theorem w_set41 (tb b : Nat) (o0 o1 o2 : Value) (c li co : Int) (W : World) (h0 : W.cell? ⟨b, 0, none⟩ = some (.int .i64 c)) (h1 : W.cell? ⟨b, 1, none⟩ = some (.int .i64 li)) (h2 : W.cell? ⟨b, 2, none⟩ = some (.int .i64 co))
  (hB : Ven.Box W tb 76 #[o0, o1, o2]) :
  (ReflectliteValue.set #[.agg #[.pointer (some ⟨6, 76, none⟩), .pointer (some ⟨tb, 0, none⟩), .int .u64 409], .agg #[.pointer (some ⟨6, 76, none⟩), .pointer (some ⟨b, 0, none⟩), .int .u64 153]]).run Tryz.prog W
   = .ok (.tuple #[]) (((W.setCell ⟨tb, 0, none⟩ (.int .i64 c)).setCell ⟨tb, 1, none⟩ (.int .i64 li)).setCell ⟨tb, 2, none⟩ (.int .i64 co)) := by
 have c0 := hB.cell 0 _ rfl
 have c1 := hB.cell 1 _ rfl
 have c2 := hB.cell 2 _ rfl
 have f0 := hB.frozen 0
 have f1 := hB.frozen 1
 have f2 := hB.frozen 2
 have c0' : W.cell? ⟨tb, 0, none⟩ = some o0 := c0
 have b1 := hB.set 0 (.int .i64 c)
 have b2 := b1.set 1 (.int .i64 li)
 have d1 : (W.setCell ⟨tb, 0, none⟩ (.int .i64 c)).cell? ⟨tb, 1, none⟩ = some o1 := b1.cell 1 _ rfl
 have d2 : ((W.setCell ⟨tb, 0, none⟩ (.int .i64 c)).setCell ⟨tb, 1, none⟩ (.int .i64 li)).cell? ⟨tb, 2, none⟩ = some o2 := b2.cell 2 _ rfl
 have g1 := b1.frozen 1
 have g2 := b2.frozen 2
 have ag := w_agg41
 have sz := w_size41
 have di := w_direct41
 rw [rls]
 simp only [Sem.run_bind, w_parts41a, w_parts41, Result.andThen]
 simp [ReflectliteValue.flagAddr, loadVar, ag, sz, h0, h1, h2, Result.andThen, di, storeVar, go_sem]
 simp only [c0', f0]
 simp only [Bool.false_eq_true, if_false, d1, g1, d2, g2]

set_option maxHeartbeats 4000000 in
theorem as_wrong (c li co : Int) (tb : Nat) (o0 o1 o2 : Value) (w : World) (hg : w.cell? ⟨0, 0, none⟩ = some (.iface 152 (.agg #[.pointer (some ⟨6, 35, none⟩)]))) (hT : Ven.Box w tb 76 #[o0, o1, o2]) :
  Calls Tryz.prog 28 #[wrongV c li co, .iface 88 (.pointer (some ⟨tb, 0, none⟩))] w fun ev w' => ev = .returned (.bool true) ∧ w' = ((((((w.alloc (.cells #[.pointer (some ⟨tb, 0, none⟩)] 88)).alloc (.cells #[.pointer (some ⟨6, 88, none⟩), .pointer (some ⟨w.heap.size, 0, none⟩), .int .u64 150] 113)).alloc (.cells #[.pointer (some ⟨6, 88, none⟩), .pointer (some ⟨w.heap.size, 0, none⟩), .int .u64 150] 113)).alloc (.cells #[.int .i64 c, .int .i64 li, .int .i64 co] 76)).setCell ⟨tb, 0, none⟩ (.int .i64 c)).setCell ⟨tb, 1, none⟩ (.int .i64 li)).setCell ⟨tb, 2, none⟩ (.int .i64 co) := by
 have h6 := @run_callFunc_extern Tryz.prog 50 _ (fun args => ReflectliteValue.unpack (args.getD 0 (.tuple #[]))) Tryz.func50 (by kernel_rfl) (by kernel_rfl) (by kernel_rfl) (by kernel_rfl)
 have h7 := @run_callFunc_extern Tryz.prog 51 _ (ReflectliteValue.methodAny (ReflectliteValue.valueError "reflectlite.Value.Type" 0) (fun t _ _ _ => ReflectliteType.toType t)) Tryz.func51 (by kernel_rfl) (by kernel_rfl) (by kernel_rfl) (by kernel_rfl)
 have h8 := @run_callFunc_extern Tryz.prog 52 _ (ReflectliteValue.method (ReflectliteValue.valueError "reflectlite.Value.IsNil" 0) ReflectliteValue.isNil) Tryz.func52 (by kernel_rfl) (by kernel_rfl) (by kernel_rfl) (by kernel_rfl)
 have h27 := @run_callFunc_extern Tryz.prog 169 _ (ReflectliteType.abiMethod fun t => do pure (.int .u8 (← Rtype.kind t))) Tryz.func169 (by kernel_rfl) (by kernel_rfl) (by kernel_rfl) (by kernel_rfl)
 have h37 := @run_callFunc_extern Tryz.prog 182 _ (ReflectliteType.method ReflectliteType.elem) Tryz.func182 (by kernel_rfl) (by kernel_rfl) (by kernel_rfl) (by kernel_rfl)
 have h38 := @run_callFunc_extern Tryz.prog 183 _ (ReflectliteType.relation "Implements" ReflectliteType.implements_) Tryz.func183 (by kernel_rfl) (by kernel_rfl) (by kernel_rfl) (by kernel_rfl)
 have h10 := @run_callFunc_extern Tryz.prog 77 _ ReflectliteType.typeOf Tryz.func77 (by kernel_rfl) (by kernel_rfl) (by kernel_rfl) (by kernel_rfl)
 have h35 := @run_callFunc_extern Tryz.prog 180 _ (ReflectliteType.relation "AssignableTo" ReflectliteType.assignableTo) Tryz.func180 (by kernel_rfl) (by kernel_rfl) (by kernel_rfl) (by kernel_rfl)
 have h11 := @run_callFunc_extern Tryz.prog 78 _ (ReflectliteValue.method (ReflectliteValue.valueError "reflectlite.Value.Elem" 0) ReflectliteValue.elem) Tryz.func78 (by kernel_rfl) (by kernel_rfl) (by kernel_rfl) (by kernel_rfl)
 have h12 := @run_callFunc_extern Tryz.prog 79 _ ReflectliteValue.set Tryz.func79 (by kernel_rfl) (by kernel_rfl) (by kernel_rfl) (by kernel_rfl)
 have tO := w_typeOf41
 have mA := w_methodAssignableTo
 have a25 := w_assignable41
 have v25 := w_valueOf41
 have f6 := w_valueOf85
 have f7 := w_type85
 have mK := w_methodKind
 have mE := w_methodElem
 have mI := w_methodImplements
 have k27 := w_kind85
 have k25 := w_kind41
 have e27 := w_elem85
 have i25 := w_implements41
 have n8 := w_isNil85 ⟨w.heap.size, 0, none⟩ ⟨tb, 0, none⟩ ((w.alloc (.cells #[.pointer (some ⟨tb, 0, none⟩)] 88)).alloc (.cells #[.pointer (some ⟨6, 88, none⟩), .pointer (some ⟨w.heap.size, 0, none⟩), .int .u64 150] 113)) (by simp)
 have hlt : 0 < w.heap.size := by
  rcases Nat.eq_zero_or_pos w.heap.size with h0 | h
  ·simp [World.cell?, h0] at hg
  ·exact h
 have hg2 : ((w.alloc (.cells #[.pointer (some ⟨tb, 0, none⟩)] 88)).alloc (.cells #[.pointer (some ⟨6, 88, none⟩), .pointer (some ⟨w.heap.size, 0, none⟩), .int .u64 150] 113)).cell? ⟨0, 0, none⟩ = some (.iface 152 (.agg #[.pointer (some ⟨6, 35, none⟩)])) := by
  rw [World.cell?_alloc_lt _ _ ⟨0, 0, none⟩ (by simp), World.cell?_alloc_lt _ _ ⟨0, 0, none⟩ hlt]; exact hg
 have htl := hT.lt
 have el := w_elemV85 ⟨w.heap.size, 0, none⟩ ⟨tb, 0, none⟩ (((w.alloc (.cells #[.pointer (some ⟨tb, 0, none⟩)] 88)).alloc (.cells #[.pointer (some ⟨6, 88, none⟩), .pointer (some ⟨w.heap.size, 0, none⟩), .int .u64 150] 113)).alloc (.cells #[.pointer (some ⟨6, 88, none⟩), .pointer (some ⟨w.heap.size, 0, none⟩), .int .u64 150] 113)) (by rw [World.cell?_alloc_lt _ _ ⟨w.heap.size, 0, none⟩ (by simp; omega)]; simp)
 have hB4 : Below w.heap.size w ((((w.alloc (.cells #[.pointer (some ⟨tb, 0, none⟩)] 88)).alloc (.cells #[.pointer (some ⟨6, 88, none⟩), .pointer (some ⟨w.heap.size, 0, none⟩), .int .u64 150] 113)).alloc (.cells #[.pointer (some ⟨6, 88, none⟩), .pointer (some ⟨w.heap.size, 0, none⟩), .int .u64 150] 113)).alloc (.cells #[.int .i64 c, .int .i64 li, .int .i64 co] 76)) := ((((Below.refl _ w).alloc (Nat.le_refl _) _).alloc (by simp) _).alloc (by simp; omega) _).alloc (by simp; omega) _
 have st := w_set41 tb (w.heap.size + 1 + 1 + 1) o0 o1 o2 c li co ((((w.alloc (.cells #[.pointer (some ⟨tb, 0, none⟩)] 88)).alloc (.cells #[.pointer (some ⟨6, 88, none⟩), .pointer (some ⟨w.heap.size, 0, none⟩), .int .u64 150] 113)).alloc (.cells #[.pointer (some ⟨6, 88, none⟩), .pointer (some ⟨w.heap.size, 0, none⟩), .int .u64 150] 113)).alloc (.cells #[.int .i64 c, .int .i64 li, .int .i64 co] 76))
  (by rw [World.cell?_alloc_at _ _ _ _ (by simp)]; rfl)
  (by rw [World.cell?_alloc_at _ _ _ _ (by simp)]; rfl)
  (by rw [World.cell?_alloc_at _ _ _ _ (by simp)]; rfl)
  (hT.next hB4)
 clear hB4 hT
 go_enter Tryz.func28, Tryz.ntmps28
 go_wp2
 refine wp_loop_rounds 1 ?_
 rw [rounds_succ]
 go_wp2
 go_ret
 exact ⟨rfl, rfl⟩
end Go.Proofs.YtgpkdjhllekihaaGreatDoor.Par

namespace Go.Proofs.YtgpkdjhllekihaaGreatDoor.Par
set_option linter.unusedVariables false
set_option maxRecDepth 100000
open Go.RowKit Go.Shelf
open Go.Proofs.YtgpkdjhllekihaaGreatDoor.Ven (Seat Pole Ven Box venV venZ VenOwn NormTo normU IsOrder mayB)
open Go.Proofs.YtgpkdjhllekihaaGreatDoor.Flt (Et I64 Chain)

theorem Et.next {w w' : World} (t : Et w) (h : Below w.heap.size w w') : Et w' := t.below h t.pos
set_option maxHeartbeats 1000000 in
theorem ask_nil (w : World) : Calls Tryz.prog 14 #[.nilIface] w fun e w' => e = .returned (.tuple #[.int .i64 0, .agg #[.int .i64 0, .int .i64 0]]) ∧ Below w.heap.size w w' := by
 go_enter Tryz.func14, Tryz.ntmps14
 go_wp2_with fail
 refine (as_nil _ _).mono ?_
 rintro e w1 ⟨rfl, rfl⟩
 go_wp2_with fail
 refine bodyPost_ret (v := .tuple #[.int .i64 0, .agg #[.int .i64 0, .int .i64 0]]) (by simp [results, Tryz.results14, go_sem]) rfl ?_
 refine ⟨rfl, ?_⟩
 exact ((Below.refl _ w).alloc (Nat.le_refl _) _).alloc (by simp) _
set_option maxHeartbeats 1000000 in
theorem ask_wrong (c li co : Int) (w : World) (hE : Et w) : Calls Tryz.prog 14 #[wrongV c li co] w fun e w' => e = .returned (.tuple #[.int .i64 c, .agg #[.int .i64 li, .int .i64 co]]) ∧ Below w.heap.size w w' := by
 have hB : Below w.heap.size w ((w.alloc (.cells #[.int .i64 0, .int .i64 0] 27)).alloc (.cells #[.int .i64 0, .int .i64 0, .int .i64 0] 76)) := ((Below.refl _ w).alloc (Nat.le_refl _) _).alloc (by simp) _
 have hT : Box ((w.alloc (.cells #[.int .i64 0, .int .i64 0] 27)).alloc (.cells #[.int .i64 0, .int .i64 0, .int .i64 0] 76)) (w.heap.size + 1) 76 #[.int .i64 0, .int .i64 0, .int .i64 0] := by
  have := Box.fresh (w.alloc (.cells #[.int .i64 0, .int .i64 0] 27)) 76 #[.int .i64 0, .int .i64 0, .int .i64 0]
  rw [World.size_alloc] at this; exact this
 have hS : Box ((w.alloc (.cells #[.int .i64 0, .int .i64 0] 27)).alloc (.cells #[.int .i64 0, .int .i64 0, .int .i64 0] 76)) w.heap.size 27 #[.int .i64 0, .int .i64 0] := (Box.fresh w _ _).next ((Below.refl _ _).alloc (Nat.le_refl _) _)
 have hcall := as_wrong c li co (w.heap.size + 1) _ _ _ _ (Et.next hE hB) hT
 have HB : Hid (Below w.heap.size w ((w.alloc (.cells #[.int .i64 0, .int .i64 0] 27)).alloc (.cells #[.int .i64 0, .int .i64 0, .int .i64 0] 76))) := hB
 clear hE hB
 go_enter Tryz.func14, Tryz.ntmps14
 go_wp2_with fail
 refine hcall.mono ?_
 rintro e w1 ⟨rfl, hw1⟩
 clear hcall
 generalize hW : (w.alloc (.cells #[.int .i64 0, .int .i64 0] 27)).alloc (.cells #[.int .i64 0, .int .i64 0, .int .i64 0] 76) = W at hw1 hT hS HB
 have hB4 := ((((Below.refl _ W).alloc (Nat.le_refl _) (.cells #[.pointer (some ⟨w.heap.size + 1, 0, none⟩)] 88)).alloc (by simp) (.cells #[.pointer (some ⟨6, 88, none⟩), .pointer (some ⟨W.heap.size, 0, none⟩), .int .u64 150] 113)).alloc (by simp; omega) (.cells #[.pointer (some ⟨6, 88, none⟩), .pointer (some ⟨W.heap.size, 0, none⟩), .int .u64 150] 113)).alloc (by simp; omega) (.cells #[.int .i64 c, .int .i64 li, .int .i64 co] 76)
 have t4 := hT.next hB4
 have s4 := hS.next hB4
 have hB5 := HB.out.trans (hB4.mono HB.out.size)
 have t5 := ((t4.set 0 (.int .i64 c)).set 1 (.int .i64 li)).set 2 (.int .i64 co)
 have s5 := ((s4.other (w.heap.size + 1) 0 (by omega) (.int .i64 c)).other (w.heap.size + 1) 1 (by omega) (.int .i64 li)).other (w.heap.size + 1) 2 (by omega) (.int .i64 co)
 have b5 := Below.setCell (Below.setCell (Below.setCell hB5 (p := ⟨w.heap.size + 1, 0, none⟩) (by simp) (.int .i64 c)) (p := ⟨w.heap.size + 1, 1, none⟩) (by simp) (.int .i64 li)) (p := ⟨w.heap.size + 1, 2, none⟩) (by simp) (.int .i64 co)
 rw [← hw1] at t5 s5 b5
 have HB5 : Hid (Below w.heap.size w w1) := b5
 have c0 : w1.cell? ⟨w.heap.size + 1, 0, none⟩ = some (.int .i64 c) := t5.cell 0 _ rfl
 have c1 : w1.cell? ⟨w.heap.size + 1, 1, none⟩ = some (.int .i64 li) := t5.cell 1 _ rfl
 have c2 : w1.cell? ⟨w.heap.size + 1, 2, none⟩ = some (.int .i64 co) := t5.cell 2 _ rfl
 have d0 := s5.cell 0 _ rfl
 have d1 := s5.cell 1 _ rfl
 have f0 := s5.frozen 0
 have f1 := s5.frozen 1
 have dl := s5.lt
 have cl := t5.lt
 clear hw1 hW hT hS hB4 t4 s4 hB5 t5 s5 b5 HB
 go_wp2_with fail
 go_region
 all_goals
  go_wp2_with fail
  refine bodyPost_ret (v := .tuple #[.int .i64 c, .agg #[.int .i64 li, .int .i64 co]]) (by simp [results, Tryz.results14, go_sem, d0, d1]) rfl ?_
  refine ⟨rfl, ?_⟩
  exact (Below.setCell (Below.setCell HB5.out (by simp) _) (by simp) _).drew
/-- A code and its place: of a venue, none. -/
def codeOf : Except (Int × Int × Int) Ven → Int × Int × Int
 | .error p => p
 | .ok _ => (0, 0, 0)
set_option maxHeartbeats 1000000 in
theorem check_of (l : List UInt8) (w : World) (err : Value) (c li co : Int)
  (hr : Calls Tryz.prog 13 #[.string ⟨l.toArray⟩] (w.alloc (.cells #[.int .i64 0, .int .i64 0] 27)) fun e w' => (∃ b1 m1 d1 gap rad b2 m2 d2 b3 m3 d3, e = .returned (.tuple #[venV b1 m1 d1 gap rad b2 m2 d2 b3 m3 d3, err])) ∧ Below (w.alloc (.cells #[.int .i64 0, .int .i64 0] 27)).heap.size (w.alloc (.cells #[.int .i64 0, .int .i64 0] 27)) w')
  (ha : ∀ W, Below w.heap.size w W → Calls Tryz.prog 14 #[err] W fun e w' => e = .returned (.tuple #[.int .i64 c, .agg #[.int .i64 li, .int .i64 co]]) ∧ Below W.heap.size W w') :
  Calls Tryz.prog 7 #[.string ⟨l.toArray⟩] w fun e w' => e = .returned (.tuple #[.int .i64 c, .agg #[.int .i64 li, .int .i64 co]]) ∧ Below w.heap.size w w' := by
 have hS := Box.fresh w 27 #[.int .i64 0, .int .i64 0]
 have HB : Hid (Below w.heap.size w (w.alloc (.cells #[.int .i64 0, .int .i64 0] 27))) := (Below.refl _ w).alloc (Nat.le_refl _) _
 have HA : Hid (∀ W, Below w.heap.size w W → Calls Tryz.prog 14 #[err] W fun e w' => e = .returned (.tuple #[.int .i64 c, .agg #[.int .i64 li, .int .i64 co]]) ∧ Below W.heap.size W w') := ha
 clear ha
 go_enter Tryz.func7, Tryz.ntmps7
 go_wp2_with fail
 refine hr.mono ?_
 rintro e w1 ⟨⟨b1, m1, d1, gap, rad, b2, m2, d2, b3, m3, d3, rfl⟩, hb1⟩
 have HS1 : Hid (Box w1 w.heap.size 27 #[.int .i64 0, .int .i64 0]) := hS.next hb1
 have HB1 : Hid (Below w.heap.size w w1) := HB.out.trans (hb1.mono HB.out.size)
 clear hr hS HB hb1
 go_wp2_with fail
 have hBA : Below w1.heap.size w1 (w1.alloc (.cells #[.slice b1 m1 d1, .int .i64 gap, .int .i64 rad, .slice b2 m2 d2, .slice b3 m3 d3] 33)) := (Below.refl _ w1).alloc (Nat.le_refl _) _
 have hB2 := HB1.out.trans (hBA.mono HB1.out.size)
 refine (HA.out _ hB2).mono ?_
 rintro e w2 ⟨rfl, hb2⟩
 have s2 := (HS1.out.next hBA).next hb2
 have d0 := s2.cell 0 _ rfl
 have d1 := s2.cell 1 _ rfl
 have f0 := s2.frozen 0
 have f1 := s2.frozen 1
 have dl := s2.lt
 have HB2 : Hid (Below w.heap.size w w2) := hB2.trans (hb2.mono hB2.size)
 clear s2 hb2 hB2 hBA HS1 HB1
 go_wp2_with fail
 refine bodyPost_ret (v := .tuple #[.int .i64 c, .agg #[.int .i64 li, .int .i64 co]]) (by simp [results, Tryz.results7, go_sem, d0, d1]) rfl ?_
 refine ⟨rfl, ?_⟩
 exact Below.setCell (Below.setCell HB2.out (by simp) _) (by simp) _
theorem check_any (l : List UInt8) (w : World) (hR : Tok.Rng w) (hE : Et w) :
  Calls Tryz.prog 7 #[.string ⟨l.toArray⟩] w fun e w' => e = .returned (.tuple #[.int .i64 (codeOf (readL l)).1, .agg #[.int .i64 (codeOf (readL l)).2.1, .int .i64 (codeOf (readL l)).2.2]]) ∧ Below w.heap.size w w' := by
 have hB : Below w.heap.size w (w.alloc (.cells #[.int .i64 0, .int .i64 0] 27)) := (Below.refl _ w).alloc (Nat.le_refl _) _
 have hrd := read_any l _ (hR.next hB)
 cases hl : readL l with
 | error p =>
  rw [hl] at hrd
  refine check_of l w (wrongV p.1 p.2.1 p.2.2) p.1 p.2.1 p.2.2 (hrd.mono ?_) (fun W hW => ask_wrong _ _ _ W (Et.next hE hW))
  rintro e w' ⟨rfl, hb⟩
  exact ⟨⟨_, _, _, _, _, _, _, _, _, _, _, rfl⟩, hb⟩
 | ok V =>
  rw [hl] at hrd
  refine check_of l w .nilIface 0 0 0 (hrd.mono ?_) (fun W hW => ask_nil W)
  rintro e w' ⟨⟨li, co, r, hN, hr⟩, hb⟩
  obtain ⟨ord, ho, rfl, hm⟩ := norm_good (readL_good hl) hN
  obtain ⟨b1, m1, d1, b2, m2, d2, b3, m3, d3, rfl, hv⟩ := hr
  exact ⟨⟨_, _, _, _, _, _, _, _, _, _, _, rfl⟩, hb⟩
end Go.Proofs.YtgpkdjhllekihaaGreatDoor.Par

namespace Go.Proofs.YtgpkdjhllekihaaGreatDoor.Par
set_option linter.unusedVariables false
set_option maxRecDepth 100000
open Go.RowKit Go.Shelf
open Go.Proofs.YtgpkdjhllekihaaGreatDoor.Ven (Seat Pole Ven Box venV venZ VenOwn NormTo normU IsOrder mayB)
open Go.Proofs.YtgpkdjhllekihaaGreatDoor.Flt (Et I64 Chain)

theorem toFault_none (li co : Int) (w : World) : Calls Tryz.prog 15 #[.int .i64 0, .agg #[.int .i64 li, .int .i64 co]] w fun e w' => e = .returned .nilIface ∧ Below w.heap.size w w' := by
 go_enter Tryz.func15, Tryz.ntmps15
 go_wp2_with fail
 refine (Flt.New_none 0 li co (by omega) _).mono ?_
 rintro e w1 ⟨rfl, rfl⟩
 go_wp2
 go_ret
 exact ⟨rfl, (Below.refl _ w).alloc (Nat.le_refl _) _⟩
/-- An error that is a fault of its own. -/
def FaultAt (c li co : Int) (v : Value) (W : World) : Prop := ∃ b, v = .iface 69 (.pointer (some ⟨b, 0, none⟩)) ∧ Box W b 72 #[.int .i64 c, .int .i64 li, .int .i64 co, .nilIface]
theorem FaultAt.next {c li co : Int} {v : Value} {W W' : World} (h : FaultAt c li co v W) (hb : Below W.heap.size W W') : FaultAt c li co v W' := by
 obtain ⟨b, hv, hB⟩ := h
 exact ⟨b, hv, hB.next hb⟩
theorem FaultAt.set {c li co : Int} {v : Value} {W : World} (h : FaultAt c li co v W) {g : Nat} {e : TypeId} {cs : Array Value} (hX : Box W g e cs) (he : 72 ≠ e) (i : Nat) (u : Value) : FaultAt c li co v (W.setCell ⟨g, i, none⟩ u) := by
 obtain ⟨b, hv, hB⟩ := h
 refine ⟨b, hv, hB.other g i (fun hc => ?_) u⟩
 subst hc
 unfold Box at hB hX
 rw [hB] at hX
 exact he (by injection hX with hX; injection hX)
theorem FaultAt.chain {c li co : Int} {v : Value} {W : World} (h : FaultAt c li co v W) (ic : I64 c) (il : I64 li) (io : I64 co) : Chain W v [(c, li, co)] := by
 obtain ⟨b, rfl, hB⟩ := h
 exact ⟨[⟨(b, c, li, co), hB.lt, hB.cell 0 _ rfl, hB.cell 1 _ rfl, hB.cell 2 _ rfl, ic, il, io⟩], ⟨rfl, .nilIface, hB.cell 3 _ rfl, Nat.zero_le _, rfl⟩, rfl⟩
theorem toFault_some (c li co : Int) (hc : 0 < c) (w : World) : Calls Tryz.prog 15 #[.int .i64 c, .agg #[.int .i64 li, .int .i64 co]] w fun e w' => ∃ v, e = .returned v ∧ FaultAt c (max li 0) (max co 0) v w' ∧ Below w.heap.size w w' := by
 go_enter Tryz.func15, Tryz.ntmps15
 go_wp2_with fail
 refine (Flt.New_some c li co hc _).mono ?_
 rintro e w1 ⟨rfl, rfl⟩
 go_wp2
 go_ret
 refine ⟨_, rfl, ⟨_, rfl, ?_⟩, ?_⟩
 ·have h := Box.fresh (w.alloc (.cells #[.int .i64 li, .int .i64 co] 27)) 72 #[.int .i64 c, .int .i64 (max li 0), .int .i64 (max co 0), .nilIface]
  rw [World.size_alloc] at h
  exact h
 ·exact ((Below.refl _ w).alloc (Nat.le_refl _) _).alloc (by simp) _
set_option maxHeartbeats 4000000 in
theorem venue_of (l : List UInt8) (w : World) (err : Value) (c li co : Int) (G : Value → World → Prop) (E : Value → World → Prop)
  (hE0 : ∀ v W W', E v W → Below W.heap.size W W' → E v W') (hE1 : ∀ v W g cs i u, E v W → Box W g 33 cs → E v (W.setCell ⟨g, i, none⟩ u))
  (hr : Calls Tryz.prog 13 #[.string ⟨l.toArray⟩] (w.alloc (.cells #[.slice none 0 0, .int .i64 0, .int .i64 0, .slice none 0 0, .slice none 0 0] 33)) fun e w' => (∃ b1 m1 d1 gap rad b2 m2 d2 b3 m3 d3, e = .returned (.tuple #[venV b1 m1 d1 gap rad b2 m2 d2 b3 m3 d3, err]) ∧ E (venV b1 m1 d1 gap rad b2 m2 d2 b3 m3 d3) w') ∧ Below (w.alloc (.cells #[.slice none 0 0, .int .i64 0, .int .i64 0, .slice none 0 0, .slice none 0 0] 33)).heap.size (w.alloc (.cells #[.slice none 0 0, .int .i64 0, .int .i64 0, .slice none 0 0, .slice none 0 0] 33)) w')
  (ha : ∀ W, Below w.heap.size w W → Calls Tryz.prog 14 #[err] W fun e w' => e = .returned (.tuple #[.int .i64 c, .agg #[.int .i64 li, .int .i64 co]]) ∧ Below W.heap.size W w')
  (hf : ∀ W, Below w.heap.size w W → Calls Tryz.prog 15 #[.int .i64 c, .agg #[.int .i64 li, .int .i64 co]] W fun e w' => ∃ v, e = .returned v ∧ G v w' ∧ Below W.heap.size W w')
  (hG0 : ∀ v W W', G v W → Below W.heap.size W W' → G v W') (hG1 : ∀ v W g cs i u, G v W → Box W g 33 cs → G v (W.setCell ⟨g, i, none⟩ u)) :
  Calls Tryz.prog 8 #[.string ⟨l.toArray⟩] w fun e w' => (∃ b1 m1 d1 gap rad b2 m2 d2 b3 m3 d3 v, e = .returned (.tuple #[venV b1 m1 d1 gap rad b2 m2 d2 b3 m3 d3, v]) ∧ E (venV b1 m1 d1 gap rad b2 m2 d2 b3 m3 d3) w' ∧ G v w') ∧ Below w.heap.size w w' := by
 have hS := Box.fresh w 33 #[.slice none 0 0, .int .i64 0, .int .i64 0, .slice none 0 0, .slice none 0 0]
 have HB : Hid (Below w.heap.size w (w.alloc (.cells #[.slice none 0 0, .int .i64 0, .int .i64 0, .slice none 0 0, .slice none 0 0] 33))) := (Below.refl _ w).alloc (Nat.le_refl _) _
 have HA : Hid (∀ W, Below w.heap.size w W → Calls Tryz.prog 14 #[err] W fun e w' => e = .returned (.tuple #[.int .i64 c, .agg #[.int .i64 li, .int .i64 co]]) ∧ Below W.heap.size W w') := ha
 have HF : Hid (∀ W, Below w.heap.size w W → Calls Tryz.prog 15 #[.int .i64 c, .agg #[.int .i64 li, .int .i64 co]] W fun e w' => ∃ v, e = .returned v ∧ G v w' ∧ Below W.heap.size W w') := hf
 have HE0 : Hid (∀ v W W', E v W → Below W.heap.size W W' → E v W') := hE0
 have HE1 : Hid (∀ v W g cs i u, E v W → Box W g 33 cs → E v (W.setCell ⟨g, i, none⟩ u)) := hE1
 have HG0 : Hid (∀ v W W', G v W → Below W.heap.size W W' → G v W') := hG0
 have HG1 : Hid (∀ v W g cs i u, G v W → Box W g 33 cs → G v (W.setCell ⟨g, i, none⟩ u)) := hG1
 clear ha hf hE0 hE1 hG0 hG1
 go_enter Tryz.func8, Tryz.ntmps8
 go_wp2_with fail
 refine hr.mono ?_
 rintro e w1 ⟨⟨b1, m1, d1, gap, rad, b2, m2, d2, b3, m3, d3, rfl, hEv⟩, hb1⟩
 have HS1 : Hid (Box w1 w.heap.size 33 #[.slice none 0 0, .int .i64 0, .int .i64 0, .slice none 0 0, .slice none 0 0]) := hS.next hb1
 have HB1 : Hid (Below w.heap.size w w1) := HB.out.trans (hb1.mono HB.out.size)
 have HEV : Hid (E (venV b1 m1 d1 gap rad b2 m2 d2 b3 m3 d3) w1) := hEv
 clear hr hS HB hb1 hEv
 go_wp2_with fail
 have hBA : Below w1.heap.size w1 (w1.alloc (.cells #[.slice b1 m1 d1, .int .i64 gap, .int .i64 rad, .slice b2 m2 d2, .slice b3 m3 d3] 33)) := (Below.refl _ w1).alloc (Nat.le_refl _) _
 have HW : Hid (∀ W, Below w1.heap.size w1 W → Below w.heap.size w W) := fun W hW => HB1.out.trans (hW.mono HB1.out.size)
 have hv1 := Box.fresh w1 33 #[.slice b1 m1 d1, .int .i64 gap, .int .i64 rad, .slice b2 m2 d2, .slice b3 m3 d3]
 have HS2 : Hid (Box (w1.alloc (.cells #[.slice b1 m1 d1, .int .i64 gap, .int .i64 rad, .slice b2 m2 d2, .slice b3 m3 d3] 33)) w.heap.size 33 #[.slice none 0 0, .int .i64 0, .int .i64 0, .slice none 0 0, .slice none 0 0]) := HS1.out.next hBA
 have HEV2 : Hid (E (venV b1 m1 d1 gap rad b2 m2 d2 b3 m3 d3) (w1.alloc (.cells #[.slice b1 m1 d1, .int .i64 gap, .int .i64 rad, .slice b2 m2 d2, .slice b3 m3 d3] 33))) := HE0.out _ _ _ HEV.out hBA
 have HB2 : Hid (Below w.heap.size w (w1.alloc (.cells #[.slice b1 m1 d1, .int .i64 gap, .int .i64 rad, .slice b2 m2 d2, .slice b3 m3 d3] 33))) := HB1.out.trans (hBA.mono HB1.out.size)
 clear HS1 HEV HW hBA
 generalize w1.alloc (.cells #[.slice b1 m1 d1, .int .i64 gap, .int .i64 rad, .slice b2 m2 d2, .slice b3 m3 d3] 33) = W at hv1 HS2 HEV2 HB2 ⊢
 generalize w1.heap.size = vb at hv1 ⊢
 have HV2 : Hid (Box W vb 33 #[.slice b1 m1 d1, .int .i64 gap, .int .i64 rad, .slice b2 m2 d2, .slice b3 m3 d3]) := hv1
 have y0 := hv1.cell 0 _ rfl
 have y1 := hv1.cell 1 _ rfl
 have y2 := hv1.cell 2 _ rfl
 have y3 := hv1.cell 3 _ rfl
 have y4 := hv1.cell 4 _ rfl
 have yl := hv1.lt
 clear hv1
 have HD : Hid (Below W.heap.size W W.drew) := (Below.refl _ W).drew
 go_region_with (first
  | (go_at_call 14; refine (HA.out _ (HB2.out.drew)).mono ?_; rintro e w3 ⟨rfl, hb3⟩; have HB3 : Hid (Below w.heap.size w w3) := (HB2.out.drew).trans (hb3.mono (HB2.out.drew).size); have HV3 : Hid (Box w3 vb 33 #[.slice b1 m1 d1, .int .i64 gap, .int .i64 rad, .slice b2 m2 d2, .slice b3 m3 d3]) := (HV2.out.next HD.out).next hb3; have HS3 : Hid (Box w3 w.heap.size 33 #[.slice none 0 0, .int .i64 0, .int .i64 0, .slice none 0 0, .slice none 0 0]) := (HS2.out.next HD.out).next hb3; have HE3 : Hid (E (venV b1 m1 d1 gap rad b2 m2 d2 b3 m3 d3) w3) := HE0.out _ _ _ (HE0.out _ _ _ HEV2.out HD.out) hb3; have z := HV3.out; have y0 := z.cell 0 _ rfl; have y1 := z.cell 1 _ rfl; have y2 := z.cell 2 _ rfl; have y3 := z.cell 3 _ rfl; have y4 := z.cell 4 _ rfl; have yl := z.lt; clear z hb3)
  | (go_at_call 15; refine (HF.out _ HB3.out).mono ?_; rintro e w4 ⟨v4, rfl, hg4, hb4⟩; have HB4 : Hid (Below w.heap.size w w4) := HB3.out.trans (hb4.mono HB3.out.size); have HS4 : Hid (Box w4 w.heap.size 33 #[.slice none 0 0, .int .i64 0, .int .i64 0, .slice none 0 0, .slice none 0 0]) := HS3.out.next hb4; have HE4 : Hid (E (venV b1 m1 d1 gap rad b2 m2 d2 b3 m3 d3) w4) := HE0.out _ _ _ HE3.out hb4; have HG4 : Hid (G v4 w4) := hg4; have z := HV3.out.next hb4; have y0 := z.cell 0 _ rfl; have y1 := z.cell 1 _ rfl; have y2 := z.cell 2 _ rfl; have y3 := z.cell 3 _ rfl; have y4 := z.cell 4 _ rfl; have yl := z.lt; have q := HS4.out; have x0 := q.cell 0 _ rfl; have f0 := q.frozen 0; have x1 := q.cell 1 _ rfl; have f1 := q.frozen 1; have x2 := q.cell 2 _ rfl; have f2 := q.frozen 2; have x3 := q.cell 3 _ rfl; have f3 := q.frozen 3; have x4 := q.cell 4 _ rfl; have f4 := q.frozen 4; have xl := q.lt; clear z q hb4 hg4))
 all_goals
  go_wp2_with fail
  refine bodyPost_ret (v := .tuple #[venV b1 m1 d1 gap rad b2 m2 d2 b3 m3 d3, v4]) (by simp [results, Tryz.results8, go_sem, x0, x1, x2, x3, x4]) rfl ?_
  have k0 := HS4.out
  have k1 := k0.set 0 (.slice b1 m1 d1)
  have k2 := k1.set 1 (.int .i64 gap)
  have k3 := k2.set 2 (.int .i64 rad)
  have k4 := k3.set 3 (.slice b2 m2 d2)
  refine ⟨⟨b1, m1, d1, gap, rad, b2, m2, d2, b3, m3, d3, v4, rfl, ?_, ?_⟩, ?_⟩
  ·exact HE1.out _ _ _ _ 4 _ (HE1.out _ _ _ _ 3 _ (HE1.out _ _ _ _ 2 _ (HE1.out _ _ _ _ 1 _ (HE1.out _ _ _ _ 0 _ HE4.out k0) k1) k2) k3) k4
  ·exact HG1.out _ _ _ _ 4 _ (HG1.out _ _ _ _ 3 _ (HG1.out _ _ _ _ 2 _ (HG1.out _ _ _ _ 1 _ (HG1.out _ _ _ _ 0 _ HG4.out k0) k1) k2) k3) k4
  ·exact Below.setCell (Below.setCell (Below.setCell (Below.setCell (Below.setCell HB4.out (by simp) _) (by simp) _) (by simp) _) (by simp) _) (by simp) _
/-- What Venue hands back. -/
def VenTo (w : World) (o : Except (Int × Int × Int) Ven) (e : Ending) (w' : World) : Prop :=
 (match o with
 | .error p => ∃ v, e = .returned (.tuple #[venZ, v]) ∧ FaultAt p.1 (max p.2.1 0) (max p.2.2 0) v w'
 | .ok V => ∃ ord, IsOrder V.seats ord ∧ mayB (normU V ord) = true ∧ ∃ b1 m1 d1 b2 m2 d2 b3 m3 d3, e = .returned (.tuple #[venV b1 m1 d1 V.gap V.radius b2 m2 d2 b3 m3 d3, .nilIface]) ∧ VenOwn w' b1 m1 d1 b2 m2 d2 b3 m3 d3 (normU V ord)) ∧ Below w.heap.size w w'
theorem venue_any (l : List UInt8) (w : World) (hR : Tok.Rng w) (hE : Et w) (hp : ∀ p, readL l = .error p → 0 < p.1) :
  Calls Tryz.prog 8 #[.string ⟨l.toArray⟩] w fun e w' => VenTo w (readL l) e w' := by
 have hB : Below w.heap.size w (w.alloc (.cells #[.slice none 0 0, .int .i64 0, .int .i64 0, .slice none 0 0, .slice none 0 0] 33)) := (Below.refl _ w).alloc (Nat.le_refl _) _
 have hrd := read_any l _ (hR.next hB)
 cases hl : readL l with
 | error p =>
  rw [hl] at hrd
  have hp0 := hp p hl
  refine (venue_of l w (wrongV p.1 p.2.1 p.2.2) p.1 p.2.1 p.2.2 (fun v W => FaultAt p.1 (max p.2.1 0) (max p.2.2 0) v W) (fun v _ => v = venZ) (fun _ _ _ h _ => h) (fun _ _ _ _ _ _ h _ => h) (hrd.mono ?_) (fun W hW => ask_wrong _ _ _ W (Et.next hE hW)) (fun W hW => toFault_some _ _ _ hp0 W) (fun _ _ _ h hb => h.next hb) (fun _ _ _ _ i u h hX => h.set hX (by decide) i u)).mono ?_
  ·rintro e w' ⟨rfl, hb⟩
   exact ⟨⟨_, _, _, _, _, _, _, _, _, _, _, rfl, rfl⟩, hb⟩
  ·rintro e w' ⟨⟨b1, m1, d1, gap, rad, b2, m2, d2, b3, m3, d3, v, rfl, hz, hf⟩, hb⟩
   exact ⟨⟨v, by rw [hz], hf⟩, hb⟩
 | ok V =>
  rw [hl] at hrd
  refine (venue_of l w .nilIface 0 0 0 (fun v _ => v = .nilIface) (fun v W => ∃ ord, IsOrder V.seats ord ∧ mayB (normU V ord) = true ∧ ∃ b1 m1 d1 b2 m2 d2 b3 m3 d3, v = venV b1 m1 d1 V.gap V.radius b2 m2 d2 b3 m3 d3 ∧ VenOwn W b1 m1 d1 b2 m2 d2 b3 m3 d3 (normU V ord)) ?_ ?_ (hrd.mono ?_) (fun W hW => ask_nil W) (fun W hW => (toFault_none 0 0 W).mono fun e w' ⟨he, hb⟩ => ⟨_, he, rfl, hb⟩) (fun _ _ _ h _ => h) (fun _ _ _ _ _ _ h _ => h)).mono ?_
  ·rintro v W W' ⟨ord, ho, hm, b1, m1, d1, b2, m2, d2, b3, m3, d3, hv, hU⟩ hb
   exact ⟨ord, ho, hm, b1, m1, d1, b2, m2, d2, b3, m3, d3, hv, hU.next hb⟩
  ·rintro v W g cs i u ⟨ord, ho, hm, b1, m1, d1, b2, m2, d2, b3, m3, d3, hv, hU⟩ hX
   exact ⟨ord, ho, hm, b1, m1, d1, b2, m2, d2, b3, m3, d3, hv, hU.set hX (by decide) (by decide) (by decide) i u⟩
  ·rintro e w' ⟨⟨li, co, r, hN, hr⟩, hb⟩
   obtain ⟨ord, ho, rfl, hm⟩ := norm_good (readL_good hl) hN
   obtain ⟨b1, m1, d1, b2, m2, d2, b3, m3, d3, rfl, hv⟩ := hr
   exact ⟨⟨_, _, _, _, _, _, _, _, _, _, _, rfl, ord, ho, hm, b1, m1, d1, b2, m2, d2, b3, m3, d3, rfl, hv⟩, hb⟩
  ·rintro e w' ⟨⟨b1, m1, d1, gap, rad, b2, m2, d2, b3, m3, d3, v, rfl, ⟨ord, ho, hm, a1, n1, c1, a2, n2, c2, a3, n3, c3, hv, hU⟩, hf⟩, hb⟩
   subst hf
   exact ⟨⟨ord, ho, hm, a1, n1, c1, a2, n2, c2, a3, n3, c3, by rw [hv], hU⟩, hb⟩
end Go.Proofs.YtgpkdjhllekihaaGreatDoor.Par

namespace Go.Proofs.YtgpkdjhllekihaaGreatDoor.Par
set_option linter.unusedVariables false
set_option maxRecDepth 100000
open Go.Proofs.YtgpkdjhllekihaaGreatDoor.Ven (Seat Pole Ven)

theorem read_t1 : readL [103, 97, 112, 32, 50, 10, 119, 104, 101, 101, 108, 32, 49, 32, 51, 32, 52, 32, 35, 32, 104, 101, 114, 101, 10, 115, 101, 97, 116, 32, 48, 32, 53, 32, 54, 10, 107, 105, 108, 108, 32, 49, 32, 51, 10, 112, 111, 108, 101, 32, 48, 32, 48, 32, 57, 10] = .ok ⟨[⟨1, 3, 4, 1⟩, ⟨0, 5, 6, 0⟩], 2, 0, [0], [⟨0, 0, 9⟩]⟩ := by kernel_rfl
theorem read_t2 : readL [] = .error (2, 1, 1) := by kernel_rfl
theorem read_t3 : readL [103, 97, 112, 32, 49, 10, 115, 101, 97, 116, 32, 48, 32, 48, 32, 48, 10, 115, 101, 97, 116, 32, 48, 32, 48, 32, 53, 10] = .error (2, 3, 1) := by kernel_rfl
theorem read_t4 : readL [103, 97, 112, 32, 49, 10, 115, 101, 97, 116, 32, 48, 32, 48, 32, 48, 10, 107, 105, 108, 108, 32, 48, 32, 57] = .error (2, 3, 6) := by kernel_rfl
theorem read_t5 : readL [103, 97, 112, 32, 48, 10] = .error (2, 1, 5) := by kernel_rfl
theorem read_t6 : readL [115, 101, 97, 116, 32, 49, 32, 50, 10] = .error (2, 1, 9) := by kernel_rfl
theorem read_t7 : readL [120] = .error (2, 1, 1) := by kernel_rfl
end Go.Proofs.YtgpkdjhllekihaaGreatDoor.Par

namespace Go.Proofs.YtgpkdjhllekihaaGreatDoor.Par
set_option linter.unusedVariables false
set_option maxRecDepth 100000
open Go.RowKit Go.Shelf
open Go.Proofs.YtgpkdjhllekihaaGreatDoor.Ven (Seat Pole Ven Box venV venZ VenAt VenOwn NormTo normU IsOrder mayB order_unique rising_order BelowOf wp_region_quiet_below mixed SeatAt below_alloc ltS)
open Go.Proofs.YtgpkdjhllekihaaGreatDoor.Flt (Et I64 Chain)

/-- What the law leans on in memory: the listed variables that are read. -/
structure Has0 (w : World) : Prop where
 rng : Tok.Rng w
 et : Et w
theorem Has0.next {w w' : World} (h : Has0 w) (hb : Below w.heap.size w w') : Has0 w' := ⟨h.rng.next hb, Et.next h.et hb⟩
def V1 : Ven := ⟨[⟨1, 3, 4, 1⟩, ⟨0, 5, 6, 0⟩], 2, 0, [0], [⟨0, 0, 9⟩]⟩
def U1 : Ven := ⟨[⟨0, 5, 6, 0⟩, ⟨1, 3, 4, 1⟩], 2, 0, [1], [⟨0, 0, 9⟩]⟩
theorem norm_V1 {ord : List Nat} (h : IsOrder V1.seats ord) : normU V1 ord = U1 := by
 have hr : ([1, 0] : List Nat).Pairwise fun i j => ltS V1.seats[i]! V1.seats[j]! = true := by decide
 have hp : ([1, 0] : List Nat).Perm (List.range V1.seats.length) := List.Perm.swap 0 1 []
 rw [← order_unique (rising_order hp hr) h hr]
 decide
theorem told_v1 (w : World) (hL : Has0 w) : Calls Tryz.prog 8 #[.string ⟨[103, 97, 112, 32, 50, 10, 119, 104, 101, 101, 108, 32, 49, 32, 51, 32, 52, 32, 35, 32, 104, 101, 114, 101, 10, 115, 101, 97, 116, 32, 48, 32, 53, 32, 54, 10, 107, 105, 108, 108, 32, 49, 32, 51, 10, 112, 111, 108, 101, 32, 48, 32, 48, 32, 57, 10].toArray⟩] w fun e w' => ∃ sb so sc kb ko kc pa pc, e = .returned (.tuple #[venV (some ⟨sb, so, none⟩) 2 sc 2 0 (some ⟨kb, ko, none⟩) 1 kc pa 1 pc, .nilIface]) ∧ VenAt w' (some ⟨sb, so, none⟩) 2 sc (some ⟨kb, ko, none⟩) 1 kc pa 1 pc U1 ∧ Below w.heap.size w w' := by
 refine (venue_any [103, 97, 112, 32, 50, 10, 119, 104, 101, 101, 108, 32, 49, 32, 51, 32, 52, 32, 35, 32, 104, 101, 114, 101, 10, 115, 101, 97, 116, 32, 48, 32, 53, 32, 54, 10, 107, 105, 108, 108, 32, 49, 32, 51, 10, 112, 111, 108, 101, 32, 48, 32, 48, 32, 57, 10] w hL.rng hL.et (fun p hp => by rw [read_t1] at hp; cases hp)).mono ?_
 rintro e w' ⟨hv, hb⟩
 rw [read_t1] at hv
 obtain ⟨ord, ho, _, b1, m1, d1, b2, m2, d2, b3, m3, d3, rfl, hU⟩ := hv
 have hn := norm_V1 ho
 unfold V1 at hn
 rw [hn] at hU
 have hA := hU.at
 have e1 : m1 = 2 := hA.s.len
 have e2 : m2 = 1 := hA.k.len
 have e3 : m3 = 1 := hA.p.len
 subst e1 e2 e3
 rcases hA.s with ⟨_, h⟩ | ⟨sb, so, sc, he, _⟩
 ·cases h
 rcases hA.k with ⟨_, h⟩ | ⟨kb, ko, kc, hk, _⟩
 ·cases h
 injection he with he1 _ _
 injection hk with hk1 _ _
 subst he1 hk1
 exact ⟨sb, so, d1, kb, ko, d2, b3, d3, rfl, hA, hb⟩
theorem told_c2 (w : World) (hL : Has0 w) : Calls Tryz.prog 7 #[.string ⟨[].toArray⟩] w fun e w' => e = .returned (.tuple #[.int .i64 2, .agg #[.int .i64 1, .int .i64 1]]) ∧ Below w.heap.size w w' := by
 have h := check_any [] w hL.rng hL.et
 rw [read_t2] at h
 exact h
theorem told_c3 (w : World) (hL : Has0 w) : Calls Tryz.prog 7 #[.string ⟨[103, 97, 112, 32, 49, 10, 115, 101, 97, 116, 32, 48, 32, 48, 32, 48, 10, 115, 101, 97, 116, 32, 48, 32, 48, 32, 53, 10].toArray⟩] w fun e w' => e = .returned (.tuple #[.int .i64 2, .agg #[.int .i64 3, .int .i64 1]]) ∧ Below w.heap.size w w' := by
 have h := check_any [103, 97, 112, 32, 49, 10, 115, 101, 97, 116, 32, 48, 32, 48, 32, 48, 10, 115, 101, 97, 116, 32, 48, 32, 48, 32, 53, 10] w hL.rng hL.et
 rw [read_t3] at h
 exact h
theorem told_c4 (w : World) (hL : Has0 w) : Calls Tryz.prog 7 #[.string ⟨[103, 97, 112, 32, 49, 10, 115, 101, 97, 116, 32, 48, 32, 48, 32, 48, 10, 107, 105, 108, 108, 32, 48, 32, 57].toArray⟩] w fun e w' => e = .returned (.tuple #[.int .i64 2, .agg #[.int .i64 3, .int .i64 6]]) ∧ Below w.heap.size w w' := by
 have h := check_any [103, 97, 112, 32, 49, 10, 115, 101, 97, 116, 32, 48, 32, 48, 32, 48, 10, 107, 105, 108, 108, 32, 48, 32, 57] w hL.rng hL.et
 rw [read_t4] at h
 exact h
theorem told_c5 (w : World) (hL : Has0 w) : Calls Tryz.prog 7 #[.string ⟨[103, 97, 112, 32, 48, 10].toArray⟩] w fun e w' => e = .returned (.tuple #[.int .i64 2, .agg #[.int .i64 1, .int .i64 5]]) ∧ Below w.heap.size w w' := by
 have h := check_any [103, 97, 112, 32, 48, 10] w hL.rng hL.et
 rw [read_t5] at h
 exact h
theorem told_c6 (w : World) (hL : Has0 w) : Calls Tryz.prog 7 #[.string ⟨[115, 101, 97, 116, 32, 49, 32, 50, 10].toArray⟩] w fun e w' => e = .returned (.tuple #[.int .i64 2, .agg #[.int .i64 1, .int .i64 9]]) ∧ Below w.heap.size w w' := by
 have h := check_any [115, 101, 97, 116, 32, 49, 32, 50, 10] w hL.rng hL.et
 rw [read_t6] at h
 exact h
theorem told_v7 (w : World) (hL : Has0 w) : Calls Tryz.prog 8 #[.string ⟨[120].toArray⟩] w fun e w' => ∃ v, e = .returned (.tuple #[venZ, v]) ∧ FaultAt 2 1 1 v w' ∧ Below w.heap.size w w' := by
 refine (venue_any [120] w hL.rng hL.et (fun p hp => by rw [read_t7] at hp; injection hp with hp; subst hp; decide)).mono ?_
 rintro e w' ⟨hv, hb⟩
 rw [read_t7] at hv
 obtain ⟨v, he, hf⟩ := hv
 exact ⟨v, he, hf, hb⟩
structure TSt (w : World) (B1 B2 B3 B4 B5 B6 sb so sc kb ko kc : Nat) (pa : Option Addr) (pc : Nat) (v : Value) (W : World) : Prop where
 past : Below w.heap.size w W
 lean : Has0 W
 x : Box W B1 33 #[.slice (some ⟨sb, so, none⟩) 2 sc, .int .i64 2, .int .i64 0, .slice (some ⟨kb, ko, none⟩) 1 kc, .slice pa 1 pc]
 u : VenAt W (some ⟨sb, so, none⟩) 2 sc (some ⟨kb, ko, none⟩) 1 kc pa 1 pc U1
 s2 : Box W B2 27 #[.int .i64 1, .int .i64 1]
 s3 : Box W B3 27 #[.int .i64 3, .int .i64 1]
 s4 : Box W B4 27 #[.int .i64 3, .int .i64 6]
 s5 : Box W B5 27 #[.int .i64 1, .int .i64 5]
 s6 : Box W B6 27 #[.int .i64 1, .int .i64 9]
 f : FaultAt 2 1 1 v W
variable {w : World} {B1 B2 B3 B4 B5 B6 sb so sc kb ko kc : Nat} {pa : Option Addr} {pc : Nat} {v : Value} {W W' : World}
theorem TSt.next (h : TSt w B1 B2 B3 B4 B5 B6 sb so sc kb ko kc pa pc v W) (hb : Below W.heap.size W W') : TSt w B1 B2 B3 B4 B5 B6 sb so sc kb ko kc pa pc v W' :=
 ⟨h.past.trans (hb.mono h.past.size), h.lean.next hb, h.x.next hb, h.u.next hb, h.s2.next hb, h.s3.next hb, h.s4.next hb, h.s5.next hb, h.s6.next hb, h.f.next hb⟩
theorem TSt.seat0 (h : TSt w B1 B2 B3 B4 B5 B6 sb so sc kb ko kc pa pc v W) : SeatAt W sb so 0 5 6 0 := by
 have := (h.u.s.some_cells (by decide)).seat 0 (by decide)
 simpa [U1] using this
theorem TSt.seat1 (h : TSt w B1 B2 B3 B4 B5 B6 sb so sc kb ko kc pa pc v W) : SeatAt W sb (so + 4) 1 3 4 1 := by
 have := (h.u.s.some_cells (by decide)).seat 1 (by decide)
 simpa [U1] using this
theorem TSt.kill0 (h : TSt w B1 B2 B3 B4 B5 B6 sb so sc kb ko kc pa pc v W) : W.cell? ⟨kb, ko, none⟩ = some (.int .i64 1) := by
 have := (h.u.k.some_cells (by decide)).int 0 (by decide)
 simpa [U1] using this
theorem told_code (v : Value) (W : World) (hE : Et W) (hf : FaultAt 2 1 1 v W) : Calls Tryz.prog 10 #[v] W fun e w' => e = .returned (.int .i64 2) ∧ Below W.heap.size W w' :=
 callsIn_wide.1 (Flt.Code_in 3 (by omega) v (2, 1, 1) [] W hE (hf.chain (by unfold I64; omega) (by unfold I64; omega) (by unfold I64; omega)))
theorem told_spot (v : Value) (W : World) (hE : Et W) (hf : FaultAt 2 1 1 v W) : Calls Tryz.prog 11 #[v] W fun e w' => e = .returned (.agg #[.int .i64 1, .int .i64 1]) ∧ Below W.heap.size W w' :=
 callsIn_wide.1 (Flt.Spot_in 3 (by omega) v [(2, 1, 1)] W hE (hf.chain (by unfold I64; omega) (by unfold I64; omega) (by unfold I64; omega)))
set_option maxHeartbeats 8000000 in
theorem told_any (w : World) (hL : Has0 w) : Calls Tryz.prog 4 #[] w fun e w' => e = .returned (.bool true) ∧ Below w.heap.size w w' := by
 have HL : Hid (Has0 w) := hL
 clear hL
 go_enter Tryz.func4, Tryz.ntmps4
 go_wp2_with fail
 refine (told_v1 w HL.out).mono ?_
 rintro e w1 ⟨sb, so, sc, kb, ko, kc, pa, pc, rfl, hu, hb⟩
 have al1 := below_alloc w1 (.cells #[.slice (some ⟨sb, so, none⟩) 2 sc, .int .i64 2, .int .i64 0, .slice (some ⟨kb, ko, none⟩) 1 kc, .slice pa 1 pc] 33)
 have p1 := hb.trans (al1.mono hb.size)
 have x1 := Box.fresh w1 33 #[.slice (some ⟨sb, so, none⟩) 2 sc, .int .i64 2, .int .i64 0, .slice (some ⟨kb, ko, none⟩) 1 kc, .slice pa 1 pc]
 have u1 := hu.next al1
 have l1 := HL.out.next p1
 clear hb al1 hu HL
 go_wp2_with fail
 refine (told_c2 _ l1).mono ?_
 rintro e w2 ⟨rfl, hb⟩
 have al := below_alloc w2 (.cells #[.int .i64 1, .int .i64 1] 27)
 have hbb := hb.trans (al.mono hb.size)
 have p2 := p1.trans (hbb.mono p1.size)
 have l2 := l1.next hbb
 replace x1 := x1.next hbb
 replace u1 := u1.next hbb
 have s2 := Box.fresh w2 27 #[.int .i64 1, .int .i64 1]
 clear hb al hbb p1 l1
 go_wp2_with fail
 refine (told_c3 _ l2).mono ?_
 rintro e w3 ⟨rfl, hb⟩
 have al := below_alloc w3 (.cells #[.int .i64 3, .int .i64 1] 27)
 have hbb := hb.trans (al.mono hb.size)
 have p3 := p2.trans (hbb.mono p2.size)
 have l3 := l2.next hbb
 replace x1 := x1.next hbb
 replace u1 := u1.next hbb
 replace s2 := s2.next hbb
 have s3 := Box.fresh w3 27 #[.int .i64 3, .int .i64 1]
 clear hb al hbb p2 l2
 go_wp2_with fail
 refine (told_c4 _ l3).mono ?_
 rintro e w4 ⟨rfl, hb⟩
 have al := below_alloc w4 (.cells #[.int .i64 3, .int .i64 6] 27)
 have hbb := hb.trans (al.mono hb.size)
 have p4 := p3.trans (hbb.mono p3.size)
 have l4 := l3.next hbb
 replace x1 := x1.next hbb
 replace u1 := u1.next hbb
 replace s2 := s2.next hbb
 replace s3 := s3.next hbb
 have s4 := Box.fresh w4 27 #[.int .i64 3, .int .i64 6]
 clear hb al hbb p3 l3
 go_wp2_with fail
 refine (told_c5 _ l4).mono ?_
 rintro e w5 ⟨rfl, hb⟩
 have al := below_alloc w5 (.cells #[.int .i64 1, .int .i64 5] 27)
 have hbb := hb.trans (al.mono hb.size)
 have p5 := p4.trans (hbb.mono p4.size)
 have l5 := l4.next hbb
 replace x1 := x1.next hbb
 replace u1 := u1.next hbb
 replace s2 := s2.next hbb
 replace s3 := s3.next hbb
 replace s4 := s4.next hbb
 have s5 := Box.fresh w5 27 #[.int .i64 1, .int .i64 5]
 clear hb al hbb p4 l4
 go_wp2_with fail
 refine (told_c6 _ l5).mono ?_
 rintro e w6 ⟨rfl, hb⟩
 have al := below_alloc w6 (.cells #[.int .i64 1, .int .i64 9] 27)
 have hbb := hb.trans (al.mono hb.size)
 have p6 := p5.trans (hbb.mono p5.size)
 have l6 := l5.next hbb
 replace x1 := x1.next hbb
 replace u1 := u1.next hbb
 replace s2 := s2.next hbb
 replace s3 := s3.next hbb
 replace s4 := s4.next hbb
 replace s5 := s5.next hbb
 have s6 := Box.fresh w6 27 #[.int .i64 1, .int .i64 9]
 clear hb al hbb p5 l5
 go_wp2_with fail
 refine (told_v7 _ l6).mono ?_
 rintro e w7 ⟨v, rfl, hf, hb⟩
 have st : TSt w w1.heap.size w2.heap.size w3.heap.size w4.heap.size w5.heap.size w6.heap.size sb so sc kb ko kc pa pc v w7 :=
  ⟨p6.trans (hb.mono p6.size), l6.next hb, x1.next hb, u1.next hb, s2.next hb, s3.next hb, s4.next hb, s5.next hb, s6.next hb, hf⟩
 clear hb x1 u1 s2 s3 s4 s5 s6 p6 l6 hf
 obtain ⟨fb, rfl, _⟩ := id st.f
 generalize w1.heap.size = B1 at st ⊢
 generalize w2.heap.size = B2 at st ⊢
 generalize w3.heap.size = B3 at st ⊢
 generalize w4.heap.size = B4 at st ⊢
 generalize w5.heap.size = B5 at st ⊢
 generalize w6.heap.size = B6 at st ⊢
 have i0 := st.x.cell 0 _ rfl
 have i1 := st.x.cell 1 _ rfl
 have i2 := st.x.cell 2 _ rfl
 have i3 := st.x.cell 3 _ rfl
 have i4 := st.x.cell 4 _ rfl
 have il := st.x.lt
 have j20 := st.s2.cell 0 _ rfl
 have j21 := st.s2.cell 1 _ rfl
 have jl2 := st.s2.lt
 have j30 := st.s3.cell 0 _ rfl
 have j31 := st.s3.cell 1 _ rfl
 have jl3 := st.s3.lt
 have j40 := st.s4.cell 0 _ rfl
 have j41 := st.s4.cell 1 _ rfl
 have jl4 := st.s4.lt
 have j50 := st.s5.cell 0 _ rfl
 have j51 := st.s5.cell 1 _ rfl
 have jl5 := st.s5.lt
 have j60 := st.s6.cell 0 _ rfl
 have j61 := st.s6.cell 1 _ rfl
 have jl6 := st.s6.lt
 have s0 := st.seat0.c0
 have s1 := st.seat0.c1
 have s2 := st.seat0.c2
 have s3 := st.seat0.c3
 have t0 := st.seat1.c0
 have t1 := st.seat1.c1
 have t2 := st.seat1.c2
 have t3 := st.seat1.c3
 have sl := (st.u.s.some_cells (by decide)).1
 have k0 := st.kill0
 have kl := (st.u.k.some_cells (by decide)).1
 have ST : Hid (TSt w B1 B2 B3 B4 B5 B6 sb so sc kb ko kc pa pc (.iface 69 (.pointer (some ⟨fb, 0, none⟩))) (w7.alloc (.cells #[.slice none 0 0, .int .i64 0, .int .i64 0, .slice none 0 0, .slice none 0 0] 33))) := st.next (below_alloc _ _)
 clear st
 simp only [Nat.add_assoc, Nat.reduceAdd] at s0 s1 s2 s3 t0 t1 t2 t3
 go_wp2_with fail
 refine (told_code _ _ ST.out.lean.et ST.out.f).mono ?_
 rintro e w8 ⟨rfl, hb8⟩
 have ST8 : Hid (TSt w B1 B2 B3 B4 B5 B6 sb so sc kb ko kc pa pc (.iface 69 (.pointer (some ⟨fb, 0, none⟩))) w8) := ST.out.next hb8
 clear hb8 ST
 go_wp2_with fail
 refine (told_spot _ _ ST8.out.lean.et ST8.out.f).mono ?_
 rintro e w9 ⟨rfl, hb9⟩
 have st9 := (ST8.out.next hb9).past
 clear hb9
 go_wp2
 go_ret
 exact ⟨rfl, st9⟩
end Go.Proofs.YtgpkdjhllekihaaGreatDoor.Par

namespace Go.Proofs.YtgpkdjhllekihaaGreatDoor.Par
set_option linter.unusedVariables false
set_option maxRecDepth 100000
open Go.Proofs.YtgpkdjhllekihaaGreatDoor.Ven (Seat Pole Ven)
open Go.Proofs.YtgpkdjhllekihaaGreatDoor.Prs (kindL atI)

/-- A place of a text of so many bytes. -/
def InT (n : Nat) (p : Int × Int) : Prop := 1 ≤ p.1 ∧ p.1 ≤ (n : Int) + 1 ∧ 1 ≤ p.2 ∧ p.2 ≤ (n : Int) + 1
theorem allP_spots : ∀ (n : Nat) (r : List UInt8) (li co : Int), r.length ≤ n → 1 ≤ li → 1 ≤ co →
  (∀ t ∈ (Tok.allP r li co).1, 1 ≤ t.2.2.1 ∧ t.2.2.1 ≤ li + r.length ∧ 1 ≤ t.2.2.2.1 ∧ t.2.2.2.1 ≤ co + r.length) ∧
  (1 ≤ (Tok.allP r li co).2.1 ∧ (Tok.allP r li co).2.1 ≤ li + r.length ∧ 1 ≤ (Tok.allP r li co).2.2.1 ∧ (Tok.allP r li co).2.2.1 ≤ co + r.length) := by
 intro n
 induction n with
 | zero =>
  intro r li co hr h1 h2
  rcases Tok.allP_cases r li co with ⟨hk, e⟩ | ⟨hlt, _⟩ | ⟨hlt, _⟩
  ·rw [e]; exact ⟨by simp, by omega, by simp; omega, by simp; omega, by simp⟩
  ·omega
  ·omega
 | succ n ih =>
  intro r li co hr h1 h2
  rcases Tok.allP_cases r li co with ⟨hk, e⟩ | ⟨hlt, gk, gn, gt, gs, hrd, e⟩ | ⟨hlt, gk, gn, gt, gs, hrd, g1, g2, g3, e⟩
  ·rw [e]; exact ⟨by simp, by omega, by simp; omega, by simp; omega, by simp⟩
  ·have hle := Tok.readL_le (r.drop (Tok.unsaidL r))
   rw [hrd, List.length_drop] at hle
   simp only at hle
   rw [e]
   exact ⟨by simp, by omega, by simp; omega, by simp; omega, by simp; omega⟩
  ·have hlen : (r.drop (Tok.unsaidL r + gs)).length = r.length - (Tok.unsaidL r + gs) := List.length_drop
   have key := ih (r.drop (Tok.unsaidL r + gs)) (if gk = 3 then li + 1 else li) (if gk = 3 then 1 else co + Tok.unsaidL r + gs) (by omega) (by split <;> omega) (by split <;> omega)
   rw [hlen] at key
   have hA : (if gk = 3 then li + 1 else li) ≤ li + 1 := by split <;> omega
   have hB : (if gk = 3 then 1 else co + (Tok.unsaidL r : Int) + gs) ≤ co + (Tok.unsaidL r + gs : Nat) := by split <;> omega
   have hc : ((r.length - (Tok.unsaidL r + gs) : Nat) : Int) = (r.length : Int) - (Tok.unsaidL r + gs : Nat) := by omega
   rw [hc] at key
   rw [e]
   generalize hU : Tok.unsaidL r = U at *
   generalize (if gk = 3 then li + 1 else li) = li2 at *
   generalize (if gk = 3 then 1 else co + (U : Int) + gs) = co2 at *
   generalize Tok.allP (r.drop (U + gs)) li2 co2 = A at *
   obtain ⟨k1, k2, k3, k4, k5⟩ := key
   have hlt' : (U : Int) + gs ≤ r.length := by omega
   refine ⟨?_, k2, by show A.2.1 ≤ _; omega, k4, by show A.2.2.1 ≤ _; omega⟩
   intro t ht
   rcases List.mem_cons.1 ht with rfl | ht
   ·refine ⟨h1, ?_, ?_, ?_⟩
    ·show li ≤ li + r.length; omega
    ·show 1 ≤ co + (U : Int); omega
    ·show co + (U : Int) ≤ co + r.length; omega
   ·obtain ⟨a, b, c, d⟩ := k1 t ht
    exact ⟨a, by omega, c, by omega⟩
theorem form_spot {P : Int × Int → Prop} : ∀ (n : Nat) (l : List T) (e p : Int × Int), (∀ t ∈ l, P (spotT t)) → P e → formL n l e = some p → P p
 | 0, [], _, _, _, _, h => by simp [formL] at h
 | 0, t :: r, e, p, hl, he, h => by simp [formL] at h; subst h; exact hl t (by simp)
 | n + 1, [], e, p, hl, he, h => by simp [formL] at h; subst h; exact he
 | n + 1, t :: r, e, p, hl, he, h => by
  unfold formL at h
  split at h
  ·exact form_spot n r e p (fun u hu => hl u (by simp [hu])) he h
  ·simp at h; subst h; exact hl t (by simp)
theorem range_spot {P : Int × Int → Prop} (k : Nat) : ∀ (i : Nat) (l : List T) (p : Int × Int), (∀ t ∈ l, P (spotT t)) → rangeL k i l = some p → P p
 | i, [], p, _, h => by simp [rangeL] at h
 | i, t :: r, p, hl, h => by
  unfold rangeL at h
  split at h
  ·exact range_spot k (i + 1) r p (fun u hu => hl u (by simp [hu])) h
  ·simp at h; subst h; exact hl t (by simp)
theorem line_spot {P : Int × Int → Prop} (ts : List T) (e : Int × Int) (s : St) (hl : ∀ t ∈ ts, P (spotT t)) (he : P e) (hk : ∀ k ∈ s.kills, P k.word ∧ P k.first) :
  (∀ p, lineL ts e s = .error p → P p) ∧ (∀ s', lineL ts e s = .ok s' → ∀ k ∈ s'.kills, P k.word ∧ P k.first) := by
 cases ts with
 | nil => exact ⟨fun p h => by simp [lineL] at h, fun s' h => by simp [lineL] at h; subst h; exact hk⟩
 | cons w rest =>
  have hw : P (spotT w) := hl w (by simp)
  have hr : ∀ t ∈ rest, P (spotT t) := fun t ht => hl t (by simp [ht])
  unfold lineL
  simp only []
  cases ht : tellL w rest e with
  | some q =>
   refine ⟨fun p h => ?_, fun s' h => by cases h⟩
   injection h with h
   subst h
   unfold tellL at ht
   split at ht
   ·injection ht with ht; subst ht; exact hw
   ·split at ht
    ·rename_i hf
     injection ht with ht; subst ht
     exact form_spot _ _ _ _ hr he hf
    ·exact range_spot _ _ _ _ hr ht
  | none =>
   have hlen : kindL w.2.2.2.2 = 7 → rest.length = 2 := by
    intro h7
    unfold tellL at ht
    rw [h7, if_neg (by decide)] at ht
    split at ht
    ·cases ht
    ·rename_i hf
     exact form_len _ _ _ hf
   cases ha : addL (kindL w.2.2.2.2) w rest s with
   | none => exact ⟨fun p h => by injection h with h; subst h; exact hw, fun s' h => by cases h⟩
   | some s1 =>
    refine ⟨fun p h => (by cases h), fun s' h => ?_⟩
    injection h with h
    subst h
    unfold addL at ha
    by_cases h5 : kindL w.2.2.2.2 = 5
    ·rw [if_pos h5] at ha
     split at ha
     ·injection ha with ha; subst ha; exact hk
     ·cases ha
    rw [if_neg h5] at ha
    by_cases h6 : kindL w.2.2.2.2 = 6
    ·rw [if_pos h6] at ha
     split at ha
     ·injection ha with ha; subst ha; exact hk
     ·cases ha
    rw [if_neg h6] at ha
    by_cases h7 : kindL w.2.2.2.2 = 7
    ·rw [if_pos h7] at ha
     split at ha
     ·injection ha with ha
      subst ha
      intro k hk'
      rcases List.mem_append.1 hk' with hk' | hk'
      ·exact hk k hk'
      ·rw [List.mem_singleton] at hk'
       subst hk'
       refine ⟨hw, ?_⟩
       have h2 := hlen h7
       have : rest[0]! ∈ rest := by
        rw [getElem!_pos rest 0 (by omega)]; exact List.getElem_mem _
       exact hr _ this
     ·cases ha
    rw [if_neg h7] at ha
    by_cases h4 : kindL w.2.2.2.2 = 4
    ·rw [if_pos h4] at ha
     split at ha
     ·injection ha with ha; subst ha; exact hk
     ·cases ha
    rw [if_neg h4] at ha
    split at ha
    ·injection ha with ha; subst ha; exact hk
    ·cases ha
theorem linesD_spot {P : Int × Int → Prop} (e : Int × Int) (he : P e) : ∀ (f : Nat) (r : List T) (s : St), (∀ t ∈ r, P (spotT t)) → (∀ k ∈ s.kills, P k.word ∧ P k.first) →
  (∀ p, linesD e f r s = .error p → P p) ∧ (∀ s', linesD e f r s = .ok s' → ∀ k ∈ s'.kills, P k.word ∧ P k.first)
 | 0, r, s, hl, hk => ⟨fun p h => by simp [linesD] at h, fun s' h => by simp [linesD] at h; subst h; exact hk⟩
 | f + 1, r, s, hl, hk => by
  unfold linesD
  by_cases hr : r = []
  ·rw [if_pos hr]; exact ⟨fun p h => (by cases h), fun s' h => by injection h with h; subst h; exact hk⟩
  ·rw [if_neg hr]
   have hst : P (if Tok.lineLen r < r.length then spotT (r[Tok.lineLen r]!) else e) := by
    split
    ·rename_i hlt
     rw [getElem!_pos r _ hlt]
     exact hl _ (List.getElem_mem _)
    ·exact he
   have h1 := line_spot (r.take (Tok.lineLen r)) _ s (fun t ht => hl t (List.mem_of_mem_take ht)) hst hk
   cases hc : lineL (r.take (Tok.lineLen r)) (if Tok.lineLen r < r.length then spotT (r[Tok.lineLen r]!) else e) s with
   | error q => exact ⟨fun p h => by injection h with h; subst h; exact h1.1 _ hc, fun s' h => by cases h⟩
   | ok s1 => exact linesD_spot e he f (r.drop (Tok.lineLen r + 1)) s1 (fun t ht => hl t (List.mem_of_mem_drop ht)) (h1.2 s1 hc)
theorem kills_spot {P : Int × Int → Prop} (S : List Seat) : ∀ (ks : List Kill) (acc : List Int) (p : Int × Int), (∀ k ∈ ks, P k.word ∧ P k.first) → killsL S ks acc = .error p → P p
 | [], acc, p, _, h => by simp [killsL] at h
 | k :: r, acc, p, hk, h => by
  unfold killsL at h
  split at h
  ·injection h with h; subst h; exact (hk k (by simp)).2
  ·split at h
   ·injection h with h; subst h; exact (hk k (by simp)).1
   ·exact kills_spot S r _ p (fun x hx => hk x (by simp [hx])) h
theorem code02 : ∀ (n : Nat) (l : List UInt8) (li co : Int), l.length ≤ n → (Tok.allP l li co).2.2.2 = 0 ∨ (Tok.allP l li co).2.2.2 = 2 := by
 intro n
 induction n with
 | zero =>
  intro l li co hl
  rcases Tok.allP_cases l li co with ⟨_, h⟩ | ⟨_, _, _, _, _, _, h⟩ | ⟨_, gk, gn, gt, gs, _, h1, h2, _, h⟩
  ·rw [h]; exact .inl rfl
  ·rw [h]; exact .inr rfl
  ·omega
 | succ n ih =>
  intro l li co hl
  rcases Tok.allP_cases l li co with ⟨_, h⟩ | ⟨_, _, _, _, _, _, h⟩ | ⟨_, gk, gn, gt, gs, _, h1, h2, _, h⟩
  ·rw [h]; exact .inl rfl
  ·rw [h]; exact .inr rfl
  ·rw [h]
   exact ih _ _ _ (by rw [List.length_drop]; omega)
/-- What a text within the bound that is read wrongly has: code 2, a place of its own. -/
theorem readL_spot {l : List UInt8} (hl : ¬ 1048576 < l.length) {p : Int × Int × Int} (h : readL l = .error p) : p.1 = 2 ∧ InT l.length p.2 := by
 rw [readL_scan hl] at h
 have hs := allP_spots l.length l 1 1 (Nat.le_refl _) (by omega) (by omega)
 have hc := code02 l.length l 1 1 (Nat.le_refl _)
 unfold scan at h
 generalize Tok.allP l 1 1 = A at h hs hc
 obtain ⟨ts, li, co, code⟩ := A
 simp only at h hs hc
 have he : InT l.length (li, co) := ⟨hs.2.1, by have := hs.2.2.1; omega, hs.2.2.2.1, by have := hs.2.2.2.2; omega⟩
 have ht : ∀ t ∈ ts, InT l.length (spotT t) := fun t ht => by
  obtain ⟨a, b, c, d⟩ := hs.1 t ht
  exact ⟨a, by show t.2.2.1 ≤ _; omega, c, by show t.2.2.2.1 ≤ _; omega⟩
 split at h
 ·rename_i h0
  unfold linesE at h
  have hd := linesD_spot (P := InT l.length) (li, co) he (ts.length + 1) ts St.zero ht (fun k hk => by cases hk)
  cases hq : linesD (li, co) (ts.length + 1) ts St.zero with
  | error q =>
   rw [hq] at h
   injection h with h
   subst h
   exact ⟨rfl, hd.1 q hq⟩
  | ok s =>
   rw [hq] at h
   simp only at h
   unfold wholeL at h
   split at h
   ·rename_i hw
    injection h with h
    subst h
    refine ⟨rfl, ?_⟩
    split at hw
    ·injection hw with hw; subst hw; exact he
    ·split at hw
     ·rename_i hkl
      injection hw with hw; subst hw
      exact kills_spot _ _ _ _ (hd.2 s hq) hkl
     ·cases hw
   ·cases h
 ·rename_i h0
  injection h with h
  subst h
  exact ⟨by show code = 2; omega, he⟩
end Go.Proofs.YtgpkdjhllekihaaGreatDoor.Par

namespace Go.Proofs.YtgpkdjhllekihaaGreatDoor.Par
set_option linter.unusedVariables false
set_option maxRecDepth 100000
open Go.ChangeShapes Go.WideShapes Go.RowKit

/-- The listed variables of every row of this seat. -/
def laidAll : List (String × DataW Unit) := [("math/bits.deBruijn32tab", Rows.laid_math_bits_deBruijn32tab), ("math/bits.deBruijn64tab", Rows.laid_math_bits_deBruijn64tab), ("internal/strconv.uint64pow10", Rows.laid_internal_strconv_uint64pow10), ("errors.errorType", Rows.laid_errors_errorType), ("strconv.ErrRange", Rows.laid_strconv_ErrRange), ("strconv.ErrSyntax", Rows.laid_strconv_ErrSyntax)]
def laidPlain : List (String × DataW Unit) := [("math/bits.deBruijn32tab", Rows.laid_math_bits_deBruijn32tab), ("math/bits.deBruijn64tab", Rows.laid_math_bits_deBruijn64tab), ("internal/strconv.uint64pow10", Rows.laid_internal_strconv_uint64pow10), ("strconv.ErrRange", Rows.laid_strconv_ErrRange), ("strconv.ErrSyntax", Rows.laid_strconv_ErrSyntax)]

theorem ownKnob_none : ownKnob Tryz.prog.godebug = none := by kernel_rfl
theorem etNamed : Tryz.prog.globalNamed "errors.errorType" = some 0 := by kernel_rfl
theorem rtIs : (Tryz.prog.cutTypes.find? (·.1 == "internal/reflectlite.rtype")).map (·.2) = some 152 := by kernel_rfl
theorem oneRow : ((List.range 261).filter fun t => Tryz.prog.rowNamed t [101, 114, 114, 111, 114]) = [35] := by kernel_rfl
theorem typesSize : Tryz.prog.types.size = 261 := by kernel_rfl
theorem et_of_laid {W : World} (h : laidMetH Tryz.prog laidAll W) : Flt.Et W := by
 have h' : laidMet Tryz.prog laidPlain W ∧ handlesMet Tryz.prog [("errors.errorType", Rows.laid_errors_errorType)] W := h
 obtain ⟨name, u, ty, e1, e2, e3, e4, e5⟩ := h'.2 _ (List.mem_singleton.2 rfl)
 have en : name = [101, 114, 114, 111, 114] := (Option.some.inj e1).symm
 subst en
 obtain rfl := Option.some.inj (rtIs.symm.trans e2)
 have hm : ty ∈ (List.range 261).filter fun t => Tryz.prog.rowNamed t [101, 114, 114, 111, 114] := List.mem_filter.2 ⟨List.mem_range.2 (by rw [← typesSize]; exact e3), e4⟩
 rw [oneRow] at hm
 obtain rfl := List.mem_singleton.1 hm
 have hh : typeHandle Tryz.prog 35 = .pointer (some ⟨6, 35, none⟩) := by kernel_rfl
 rw [hh] at e5
 have h0 := World.var?_cell etNamed e5 0
 unfold Flt.Et
 simpa using h0
theorem rngNamed : Tryz.prog.globalNamed "strconv.ErrRange" = some 2 := by kernel_rfl
theorem rngType : (Tryz.prog.globals[2]?).map (·.type) = some 35 := by kernel_rfl
theorem star : "*" ++ "errors.errorString" = "*errors.errorString" := by decide
theorem rowErr (u : TypeId) (h : Tryz.prog.typeName? 3 u = some "*errors.errorString") : u = 220 :=
 typeName_ptr_named (nm := "errors.errorString") (by rw [star]; kernel_rfl) (by kernel_rfl) (by decide) u (by rw [star]; exact h)
theorem cellsErr : Tryz.prog.cellsOf 222 = 1 := by kernel_rfl
theorem cellsStr : Tryz.prog.cellsOf 9 = 1 := by kernel_rfl
theorem rng_of_laid {W : World} (h : laidMetH Tryz.prog laidAll W) : Tok.Rng W := by
 have h2 : laidMet Tryz.prog laidPlain W ∧ handlesMet Tryz.prog [("errors.errorType", Rows.laid_errors_errorType)] W := h
 have h' := h2.1
 obtain ⟨a1, s1, hv1, -, -, -⟩ := laid_sentinel h'.tail.tail.tail rngNamed rngType Tryz.underlying35 rowErr Tryz.underlying220 Tryz.underlying222 rfl rfl Tryz.underlying9 cellsErr cellsStr
 exact ⟨_, _, by have h0 := World.var?_cell rngNamed hv1 0; simpa using h0⟩
theorem has_of_laid {W : World} (h : laidMetH Tryz.prog laidAll W) : Has0 W := ⟨rng_of_laid h, et_of_laid h⟩
theorem door_met (os : Os) (args : Array Value) : laidMetH Tryz.prog laidAll ((World.doorLaid Tryz.prog 400 os).forCall (fun _ _ => 0) ⟨#[], args, []⟩).memory :=
 laidMetH_of_parts3 (fuel := 8) (laidMet_of_run' 8 (by kernel_rfl) (by kernel_rfl)) (by kernel_rfl) (by kernel_rfl)
end Go.Proofs.YtgpkdjhllekihaaGreatDoor.Par

namespace Go.Proofs.YtgpkdjhllekihaaGreatDoor.Prn
set_option linter.unusedVariables false
set_option maxRecDepth 100000
open Go.RowKit Go.Shelf
open Go.Proofs.YtgpkdjhllekihaaGreatDoor.Ven (Seat Pole Ven VenAt venV Box mayB mixed SeatAt below_alloc Cells intC)

theorem bapp (l r : List UInt8) : (⟨l.toArray⟩ : ByteArray) ++ ⟨r.toArray⟩ = ⟨(l ++ r).toArray⟩ := by rw [ByteArray.mk_append_mk]
/-- A slice of ints that came in: of no length, or a row of 'cap' cells. -/
def IsRow (k : IntKind) (w : World) (a : Option Addr) (len cap : Nat) (zs : List Int) : Prop :=
 (a = none ∧ len = 0 ∧ cap = 0 ∧ zs = []) ∨
 ∃ x, a = some x ∧ len ≤ cap ∧ cap ≤ maxLen ∧ zs.length = cap ∧ (∀ i, i < zs.length → w.cell? (x.add i) = some (.int k (zs.getD i 0))) ∧ ∀ n ∈ zs, (Lit.int k n).wf = true
/-- The numbers of such a slice, as far as it is long. -/
def Own (w : World) (a : Option Addr) (len : Nat) (l : List Int) : Prop := l.length = len ∧ len ≤ maxLen ∧ (len = 0 ∨ ∃ b off, a = some ⟨b, off, none⟩ ∧ b < w.heap.size ∧ ∀ i (h : i < l.length), w.cell? ⟨b, off + i, none⟩ = some (.int .i64 l[i]))
theorem Own.next {w w' : World} {a : Option Addr} {len : Nat} {l : List Int} (h : Own w a len l) (hb : Below w.heap.size w w') : Own w' a len l := by
 obtain ⟨h1, hm, h2 | ⟨b, off, h2, h3, h4⟩⟩ := h
 ·exact ⟨h1, hm, .inl h2⟩
 ·exact ⟨h1, hm, .inr ⟨b, off, h2, Nat.lt_of_lt_of_le h3 hb.size, fun i hi => by rw [hb.cell (p := ⟨b, off + i, none⟩) h3]; exact h4 i hi⟩⟩
theorem IsRow.own {w : World} {a : Option Addr} {len cap : Nat} {zs : List Int} (h : IsRow .i64 w a len cap zs) : Own w a len (zs.take len) := by
 rcases h with ⟨rfl, rfl, rfl, rfl⟩ | ⟨x, rfl, hl, hm, hz, hcell, _⟩
 ·exact ⟨rfl, Nat.zero_le _, .inl rfl⟩
 ·refine ⟨by rw [List.length_take]; omega, by omega, ?_⟩
  rcases Nat.eq_zero_or_pos len with h0 | h0
  ·exact .inl h0
  ·obtain ⟨b, off, rfl, hc⟩ := ints_at hcell (show 0 < zs.length by omega)
   refine .inr ⟨b, off, rfl, ?_, fun i hi => ?_⟩
   ·have h1 := hc 0 (by omega)
    rcases Nat.lt_or_ge b w.heap.size with h' | h'
    ·exact h'
    ·simp [World.cell?, Array.getElem?_eq_none h'] at h1
   ·rw [List.length_take] at hi
    have := hc i (by omega)
    rw [this, List.getElem_take]
    simp [List.getD, show i < zs.length by omega]
end Go.Proofs.YtgpkdjhllekihaaGreatDoor.Prn

namespace Go.Proofs.YtgpkdjhllekihaaGreatDoor.Prn
open Go.RowKit Go.Shelf
open Go.Proofs.YtgpkdjhllekihaaGreatDoor.Tok (Ints Lits mod_u64 allP allP_cases)
open Go.Proofs.YtgpkdjhllekihaaGreatDoor.Par (readL readL_large readL_scan scan)
set_option linter.unusedVariables false
set_option maxRecDepth 100000

theorem ints_of {w : World} {ao : Option Addr} {len cap : Nat} {zs : List Int} (h : IsRow .i64 w ao len cap zs) (m : Nat) : len ≤ 9223372036854775807 ∧ Ints w ao (min len m) := by
 obtain ⟨h1, h2, h3⟩ := h.own
 unfold maxLen at h2
 refine ⟨by omega, ?_⟩
 rcases h3 with h3 | ⟨b, off, h4, h5, h6⟩
 ·exact .inl (by omega)
 ·exact .inr ⟨b, off, h4, h5, fun i hi => ⟨_, h6 i (by omega)⟩⟩
/-- A row of texts in a block, none longer than 20 bytes. -/
theorem lits_fresh (w : World) (cs : Array Value) (t : TypeId) (n : Nat) (h : ∀ m, m < n → ∃ P : List UInt8, cs[m]? = some (.string ⟨P.toArray⟩) ∧ P.length ≤ 20) : Lits (w.alloc (.cells cs t)) w.heap.size n := Tok.Lits.fresh w cs t n h
theorem code_02 : ∀ (n : Nat) (l : List UInt8) (li co : Int), l.length ≤ n → (allP l li co).2.2.2 = 0 ∨ (allP l li co).2.2.2 = 2 := by
 intro n
 induction n with
 | zero =>
  intro l li co hl
  rcases allP_cases l li co with ⟨_, h⟩ | ⟨_, _, _, _, _, _, h⟩ | ⟨_, gk, gn, gt, gs, _, h1, h2, _, h⟩
  ·rw [h]; exact .inl rfl
  ·rw [h]; exact .inr rfl
  ·omega
 | succ n ih =>
  intro l li co hl
  rcases allP_cases l li co with ⟨_, h⟩ | ⟨_, _, _, _, _, _, h⟩ | ⟨_, gk, gn, gt, gs, _, h1, h2, _, h⟩
  ·rw [h]; exact .inl rfl
  ·rw [h]; exact .inr rfl
  ·rw [h]
   exact ih _ _ _ (by rw [List.length_drop]; omega)
theorem readL_pos {l : List UInt8} {p : Int × Int × Int} (h : readL l = .error p) : 0 < p.1 := by
 by_cases hl : 1048576 < l.length
 ·rw [readL_large hl] at h
  injection h with h
  subst h; decide
 ·rw [readL_scan hl] at h
  have hc := code_02 l.length l 1 1 (Nat.le_refl _)
  have hs : (scan l 1 Par.St.zero).1.2.2 = (allP l 1 1).2.2.2 := rfl
  rw [hs] at h
  split at h
  ·split at h
   ·injection h with h; subst h; show (0 : Int) < 2; decide
   ·split at h
    ·injection h with h; subst h; show (0 : Int) < 2; decide
    ·cases h
  ·rename_i hne
   injection h with h
   subst h
   show 0 < (allP l 1 1).2.2.2
   omega
attribute [local go_sem] bapp
set_option maxRecDepth 100000 in
set_option maxHeartbeats 1000000 in
theorem text4_any (ao : Option Addr) (len cap : Nat) (hlen : len ≤ 9223372036854775807) (most : Nat) (hmost : most ≤ 25) (w : World) (hI : Ints w ao (min len most)) :
  Calls Tryz.prog 5 #[.slice ao len cap, .int .i64 most] w fun e w' => ∃ T : List UInt8, e = .returned (.string ⟨T.toArray⟩) ∧ T.length ≤ 550 ∧ Below w.heap.size w w' := by
 have HI : Hid (Ints w ao (min len most)) := hI
 clear hI
 go_enter Tryz.func5, Tryz.ntmps5
 go_wp2
 go_loopw [6, 7] (fun s i wr => ∃ (k : Nat) (T : List UInt8), k ≤ len ∧ k ≤ most ∧ T.length ≤ k * 21 ∧ i = .int .i64 k ∧ s = .string ⟨T.toArray⟩ ∧ Hid (Lits wr w.heap.size 30) ∧ w.heap.size < wr.heap.size ∧ Below w.heap.size w wr) (fun _ i _ => most - (intOf i).toNat)
 case atStart =>
  refine ⟨0, [], by omega, by omega, by simp, rfl, rfl, ?_, by simp, (Below.refl _ _).alloc (Nat.le_refl _) _⟩
  refine lits_fresh _ _ _ _ ?_
  intro m hm
  match m, hm with
  | 0, _ | 1, _ | 2, _ | 3, _ | 4, _ | 5, _ | 6, _ | 7, _ | 8, _ | 9, _ | 10, _ | 11, _ | 12, _ | 13, _ | 14, _ | 15, _ | 16, _ | 17, _ | 18, _ | 19, _ | 20, _ | 21, _ | 22, _ | 23, _ | 24, _ | 25, _ | 26, _ | 27, _ | 28, _ | 29, _ => exact ⟨_, rfl, by decide⟩
  | m + 30, h => omega
 case round =>
  obtain ⟨k, T, hk, hkm, hT, rfl, rfl, HL, hz, hB⟩ := hrel
  by_cases h1 : k < len
  ·have h1z : (k : Int) < len := by omega
   by_cases h2 : k < most
   ·have h2z : (k : Int) < most := by omega
    obtain ⟨b, off, rfl, hbl, z, hc⟩ : ∃ b off, ao = some ⟨b, off, none⟩ ∧ b < w.heap.size ∧ ∃ z, w.cell? ⟨b, off + k, none⟩ = some (.int .i64 z) := by
     rcases HI.out with h | ⟨b, off, h3, h4, h5⟩
     ·omega
     ·exact ⟨b, off, h3, h4, h5 k (by omega)⟩
    have hc1 : wr.cell? ⟨b, off + k, none⟩ = some (.int .i64 z) := by rw [hB.cell (p := ⟨b, off + k, none⟩) hbl]; exact hc
    clear hc
    obtain ⟨m, hm, em⟩ := mod_u64 z 30 (by omega)
    obtain ⟨P, hP, hPl⟩ := HL.out m (by omega)
    go_wp2
    refine ⟨⟨k + 1, T ++ P ++ [10], by omega, by omega, by simp; omega, by go_num, by simp, HL, hz, hB⟩, by simp [intOf]; omega⟩
   ·have h2z : ¬ (k : Int) < most := by omega
    go_wp2
    go_ret
    exact ⟨T, rfl, by omega, hB⟩
  ·have h1z : ¬ (k : Int) < len := by omega
   go_wp2
   go_ret
   exact ⟨T, rfl, by omega, hB⟩

end Go.Proofs.YtgpkdjhllekihaaGreatDoor.Prn

namespace Go.Proofs.YtgpkdjhllekihaaGreatDoor.Prn
set_option linter.unusedVariables false
set_option maxRecDepth 100000
open Go.RowKit Go.Shelf
open Go.Proofs.YtgpkdjhllekihaaGreatDoor.Ven (Seat Pole Ven VenAt VenOwn venV venZ Box mayB mixed SeatAt below_alloc IsOrder normU)
open Go.Proofs.YtgpkdjhllekihaaGreatDoor.Par (VenTo venue_any readL Has0 FaultAt InT readL_spot)
open Go.Proofs.YtgpkdjhllekihaaGreatDoor.Flt (Et Chain)

theorem code_at {c li co : Int} {v : Value} {W : World} (hE : Et W) (hf : FaultAt c li co v W) (ic : I64 c) (il : I64 li) (io : I64 co) : Calls Tryz.prog 10 #[v] W fun e w' => e = .returned (.int .i64 c) ∧ Below W.heap.size W w' :=
 callsIn_wide.1 (Flt.Code_in 3 (by omega) v (c, li, co) [] W hE (hf.chain ic il io))
theorem spot_at {c li co : Int} {v : Value} {W : World} (hE : Et W) (hf : FaultAt c li co v W) (ic : I64 c) (il : I64 li) (io : I64 co) (hp : 0 < li) : Calls Tryz.prog 11 #[v] W fun e w' => e = .returned (.agg #[.int .i64 li, .int .i64 co]) ∧ Below W.heap.size W w' := by
 have h := callsIn_wide.1 (Flt.Spot_in 3 (by omega) v [(c, li, co)] W hE (hf.chain ic il io))
 have hs : Flt.spotOf [(c, li, co)] = (li, co) := by
  unfold Flt.spotOf
  rw [if_pos (by unfold Flt.placedB; simp; omega)]
 rw [hs] at h
 exact h
end Go.Proofs.YtgpkdjhllekihaaGreatDoor.Prn

namespace Go.Proofs.YtgpkdjhllekihaaGreatDoor.Ask
set_option linter.unusedVariables false
set_option maxRecDepth 100000
open Go.RowKit Go.Shelf
open Go.Proofs.YtgpkdjhllekihaaGreatDoor.Ven (Seat Pole Ven Box row_next below_alloc venV venZ VenAt IsOrder normU mayB norm_agree NormTo RNormTo)
open Go.Proofs.YtgpkdjhllekihaaGreatDoor.Par (readL readL_spot check_any venue_any VenTo codeOf FaultAt Has0 told_any InT readL_good)
open Go.Proofs.YtgpkdjhllekihaaGreatDoor.Flt (Et Chain I64)

attribute [local go_sem] Tok.bapp
theorem rparse_any (l : List UInt8) (hl : l.length ≤ 1048576) (w : World) : Calls Tryz.prog 9 #[.string ⟨l.toArray⟩] w fun e w' => ParseTo w (readL l) e w' := by
 obtain ⟨ts, li, co, code, hA⟩ : ∃ ts li co code, Tok.allOf l = (ts, li, co, code) := ⟨_, _, _, _, rfl⟩
 by_cases hc : code = 0
 ·subst hc; exact rparse_lines l hl w ts li co hA
 ·exact rparse_code l hl w ts li co code hc hA
theorem code_none (w : World) : Calls Tryz.prog 10 #[.nilIface] w fun e w' => e = .returned (.int .i64 0) ∧ Below w.heap.size w w' := callsIn_wide.1 (Flt.Code_nil 3 (by omega) w)
theorem spot_none0 {w : World} (hE : Et w) : Calls Tryz.prog 11 #[.nilIface] w fun e w' => e = .returned (.agg #[.int .i64 0, .int .i64 0]) ∧ Below w.heap.size w w' := callsIn_wide.1 (Flt.Spot_in 3 (by omega) .nilIface [] w hE (Chain.nil w))
def Z5 : Ven := ⟨[], 0, 0, [], []⟩
theorem ven_zero (w : World) : VenAt w none 0 0 none 0 0 none 0 0 Z5 := ⟨.inl ⟨⟨_, _, rfl⟩, rfl⟩, .inl ⟨⟨_, _, rfl⟩, rfl⟩, .inl ⟨⟨_, _, rfl⟩, rfl⟩⟩
theorem same_zero (w : World) : Calls Tryz.prog 12 #[venZ, venZ] w fun e w' => e = .returned (.bool true) ∧ Below w.heap.size w w' := by
 have := Ven.rsame_any _ _ _ _ _ _ _ _ _ _ _ _ _ _ _ _ _ _ Z5 Z5 w (ven_zero w) (ven_zero w)
 rw [(Ven.sameB_iff Z5 Z5).2 rfl] at this
 exact this
theorem asks_long (b : List UInt8) (hb0 : b.length ≤ maxLen) (h : 200 < b.length) (ao : Option Addr) (len cap : Nat) (bo : Option Addr) (ln cp : Nat) (w : World) (hB : Has0 w) :
  Calls Tryz.prog 3 #[.string ⟨b.toArray⟩, .slice ao len cap, .slice bo ln cp] w fun e w' => e = .returned (.bool true) ∧ Below w.heap.size w w' := by
 have hz : (200 : Int) < b.length := by omega
 go_enter Tryz.func3, Tryz.ntmps3
 go_wp2_with fail
 refine (told_any w hB).mono ?_
 rintro e w1 ⟨rfl, b1⟩
 go_wp2
 go_ret
 exact ⟨rfl, b1⟩
set_option maxHeartbeats 16000000 in
theorem asks_law {w : World} (b : List UInt8) (hb0 : b.length ≤ maxLen) (ao : Option Addr) (len cap : Nat) (zs : List Int) (hz : Prn.IsRow .i64 w ao len cap zs) (bo : Option Addr) (ln cp : Nat) (ys : List Int) (hy : Prn.IsRow .i64 w bo ln cp ys) (w1 : World) (hB1 : Has0 w1) (hw : w = w1 := by rfl) :
  Calls Tryz.prog 3 #[.string ⟨b.toArray⟩, .slice ao len cap, .slice bo ln cp] w1 fun e w' => e = .returned (.bool true) ∧ Below w1.heap.size w1 w' := by
 subst hw
 by_cases hlen : 200 < b.length
 ·exact asks_long b hb0 hlen ao len cap bo ln cp w hB1
 have HH0 : Hid (∀ W, Below w.heap.size w W → Has0 W) := fun W hW => hB1.next hW
 clear hB1 hb0
 obtain ⟨hl15, hI15⟩ := Prn.ints_of hz 15
 obtain ⟨_, hI8⟩ := Prn.ints_of hz 8
 obtain ⟨hl25, hI25⟩ := Prn.ints_of hy 25
 have ht15 := Prn.text4_any ao len cap hl15 15 (by decide) w hI15
 have HT25 : Hid (∀ W, Below w.heap.size w W → Calls Tryz.prog 6 #[.slice bo ln cp, .int .i64 25] W fun e w' => ∃ T : List UInt8, e = .returned (.string ⟨T.toArray⟩) ∧ T.length ≤ 500 ∧ Below W.heap.size W w') := fun W hW => Tok.text_any bo ln cp hl25 W (hI25.next hW)
 have HT8 : Hid (∀ W, Below w.heap.size w W → Calls Tryz.prog 5 #[.slice ao len cap, .int .i64 8] W fun e w' => ∃ T : List UInt8, e = .returned (.string ⟨T.toArray⟩) ∧ T.length ≤ 550 ∧ Below W.heap.size W w') := fun W hW => Prn.text4_any ao len cap hl15 8 (by decide) W (hI8.next hW)
 clear hz hy hI15 hI8 hI25 hl15 hl25
 have hz : ¬ ((200 : Int) < b.length) := by omega
 go_enter Tryz.func3, Tryz.ntmps3
 go_wp2_with fail
 refine ht15.mono ?_
 clear ht15
 rintro e wa ⟨T1, rfl, hT1, hba⟩
 have HA := hidA hba
 clear hba
 go_wp2_with fail
 refine (HT25.out wa HA.out).mono ?_
 rintro e wb ⟨T2, rfl, hT2, hbb⟩
 have HBb := hidA (HA.out.trans (hbb.mono HA.out.size))
 clear hbb HA HT25
 go_wp2_with fail
 refine (HT8.out wb HBb.out).mono ?_
 rintro e wc ⟨T3, rfl, hT3, hbc⟩
 have HC := hidA (HBb.out.trans (hbc.mono HBb.out.size))
 clear hbc HBb HT8
 obtain ⟨T4, hT4⟩ : ∃ T4 : List UInt8, T4 = [103, 97, 112, 32, 49, 48, 10, 115, 101, 97, 116, 32, 48, 32, 48, 32, 48, 10] ++ T3 := ⟨_, rfl⟩
 have hT4l : T4.length ≤ 1000 := by rw [hT4]; simp; omega
 have hT4' : (103 :: 97 :: 112 :: 32 :: 49 :: 48 :: 10 :: 115 :: 101 :: 97 :: 116 :: 32 :: 48 :: 32 :: 48 :: 32 :: 48 :: 10 :: T3) = T4 := by rw [hT4]; rfl
 clear hT4
 go_wp2_with fail
 have hbl := below_alloc wc (.cells #[.string ⟨b.toArray⟩, .string ⟨T1.toArray⟩, .string ⟨T2.toArray⟩, .string ⟨T4.toArray⟩] 9)
 have htx := Box.fresh wc 9 #[.string ⟨b.toArray⟩, .string ⟨T1.toArray⟩, .string ⟨T2.toArray⟩, .string ⟨T4.toArray⟩]
 have hBW := HC.out.trans (hbl.mono HC.out.size)
 generalize wc.alloc (.cells #[.string ⟨b.toArray⟩, .string ⟨T1.toArray⟩, .string ⟨T2.toArray⟩, .string ⟨T4.toArray⟩] 9) = W at *
 generalize wc.heap.size = tb at *
 have HTX := hidA htx
 have HBW := hidA hBW
 have HH : Hid (∀ W', Below W.heap.size W W' → Has0 W') := fun W' h => HH0.out _ (HBW.out.trans (h.mono HBW.out.size))
 have HLN : Hid (b.length ≤ 1048576 ∧ T1.length ≤ 1048576 ∧ T2.length ≤ 1048576 ∧ T4.length ≤ 1048576) := ⟨by omega, by omega, by omega, by omega⟩
 have HB0 := hidA (Below.refl W.heap.size W)
 clear hbl htx hBW HC hT1 hT2 hT3 hT4l hlen hz HH0
 go_loopw [8] (fun i wr => ∃ k : Nat, k ≤ 4 ∧ i = .int .i64 k ∧ Hid (Below W.heap.size W wr)) (fun i _ => 4 - (intOf i).toNat)
 case atStart => exact ⟨0, by decide, rfl, HB0⟩
 case round =>
  obtain ⟨k, hk, rfl, HB⟩ := hrel
  by_cases hk4 : k < 4
  ·have hkz : (k : Int) < 4 := by omega
   obtain ⟨l, hlk, hlm⟩ : ∃ l : List UInt8, (#[.string ⟨b.toArray⟩, .string ⟨T1.toArray⟩, .string ⟨T2.toArray⟩, .string ⟨T4.toArray⟩] : Array Value)[k]? = some (.string ⟨l.toArray⟩) ∧ l.length ≤ 1048576 := by
    match k, hk4 with
    | 0, _ => exact ⟨_, rfl, HLN.out.1⟩
    | 1, _ => exact ⟨_, rfl, HLN.out.2.1⟩
    | 2, _ => exact ⟨_, rfl, HLN.out.2.2.1⟩
    | 3, _ => exact ⟨_, rfl, HLN.out.2.2.2⟩
   have HLK := hidA hlk
   have hcl := (HTX.out.next HB.out).cell k _ HLK.out
   clear hlk
   cases hr : readL l with
   | error p =>
    obtain ⟨hp1, q1, q2, q3, q4⟩ := readL_spot (by omega) hr
    obtain ⟨pc, li, co⟩ := p
    simp only at hp1 q1 q2 q3 q4
    subst hp1
    have il : I64 li := ⟨by omega, by omega⟩
    have ic : I64 co := ⟨by omega, by omega⟩
    have HLI := hidA (show 0 < li by omega)
    have hmx : max li 0 = li := by omega
    have hmy : max co 0 = co := by omega
    have hchk := check_any l wr (HH.out _ HB.out).rng (HH.out _ HB.out).et
    rw [hr] at hchk
    simp only [codeOf] at hchk
    go_wp2_with fail
    refine hchk.mono ?_
    clear hchk
    rintro e w2 ⟨rfl, hb2⟩
    have HB2 := hidA (HB.out.trans (hb2.mono HB.out.size))
    have HX10 := hidA (Box.fresh w2 27 #[.int .i64 li, .int .i64 co])
    have HK2 := hidA (below_alloc w2 (.cells #[.int .i64 li, .int .i64 co] 27))
    have hcl2 := (HTX.out.next (HB2.out.trans (HK2.out.mono HB2.out.size))).cell k _ HLK.out
    clear hb2 hcl
    go_wp2_with fail
    generalize w2.alloc (.cells #[.int .i64 li, .int .i64 co] 27) = W2 at *
    have HB3 := hidA (HB2.out.trans (HK2.out.mono HB2.out.size))
    have hven := venue_any l W2 (HH.out _ HB3.out).rng (HH.out _ HB3.out).et (fun p hp => Prn.readL_pos hp)
    unfold VenTo at hven
    rw [hr] at hven
    simp only [hmx, hmy] at hven
    refine hven.mono ?_
    clear hven
    rintro e w3 ⟨⟨ev, rfl, hft⟩, hb3⟩
    obtain ⟨fb, rfl, _⟩ := id hft
    have HFT := hidA hft
    clear hft
    have HB4 := hidA (HB3.out.trans (hb3.mono HB3.out.size))
    have HX11 := hidA (Box.fresh w3 33 #[.slice none 0 0, .int .i64 0, .int .i64 0, .slice none 0 0, .slice none 0 0])
    have HK3 := hidA (below_alloc w3 (.cells #[.slice none 0 0, .int .i64 0, .int .i64 0, .slice none 0 0, .slice none 0 0] 33))
    have HX10b := hidA ((HX10.out.next hb3).next HK3.out)
    have hcl3 := (HTX.out.next (HB4.out.trans (HK3.out.mono HB4.out.size))).cell k _ HLK.out
    have HF3 := hidA (HFT.out.next HK3.out)
    clear hb3 hcl2 HX10 HB3 HK2 HFT
    go_wp2_with fail
    generalize w3.alloc (.cells #[.slice none 0 0, .int .i64 0, .int .i64 0, .slice none 0 0, .slice none 0 0] 33) = W3 at *
    have HB5 := hidA (HB4.out.trans (HK3.out.mono HB4.out.size))
    have hps := rparse_any l (by omega) W3
    unfold ParseTo at hps
    rw [hr] at hps
    refine hps.mono ?_
    clear hps
    rintro e w4 ⟨rfl, hb4⟩
    have HB6 := hidA (HB5.out.trans (hb4.mono HB5.out.size))
    have HX10c := hidA (HX10b.out.next hb4)
    have HX11b := hidA ((HX11.out).next hb4)
    have HF4 := hidA (HF3.out.next hb4)
    clear hb4 hcl3 HX10b HX11 HB4 HB5 HK3 HF3
    go_wp2_with fail
    have hb7 := below_alloc w4 (.cells #[.slice none 0 0, .int .i64 0, .int .i64 0, .slice none 0 0, .slice none 0 0] 33)
    have hb8 := below_alloc (w4.alloc (.cells #[.slice none 0 0, .int .i64 0, .int .i64 0, .slice none 0 0, .slice none 0 0] 33)) (.cells #[.int .i64 li, .int .i64 co] 27)
    have hx13 := (Box.fresh w4 33 #[.slice none 0 0, .int .i64 0, .int .i64 0, .slice none 0 0, .slice none 0 0]).next hb8
    have hx15 := Box.fresh (w4.alloc (.cells #[.slice none 0 0, .int .i64 0, .int .i64 0, .slice none 0 0, .slice none 0 0] 33)) 27 #[.int .i64 li, .int .i64 co]
    rw [World.size_alloc] at hx15
    have HX10d := (HX10c.out.next hb7).next hb8
    have HX11c := (HX11b.out.next hb7).next hb8
    have HB8 := hidA ((HB6.out.trans (hb7.mono HB6.out.size)).trans (hb8.mono (HB6.out.trans (hb7.mono HB6.out.size)).size))
    have hf8 := (HF4.out.next hb7).next hb8
    clear hb7 hb8 HB6 HX10c HX11b
    generalize (w4.alloc (.cells #[.slice none 0 0, .int .i64 0, .int .i64 0, .slice none 0 0, .slice none 0 0] 33)).alloc (.cells #[.int .i64 li, .int .i64 co] 27) = W5 at *
    generalize w4.heap.size + 1 = x15 at *
    generalize w4.heap.size = x13 at *
    generalize w3.heap.size = x11 at *
    generalize w2.heap.size = x10 at *
    have hne : Nonempty (Ven.BelowOf W5) := ⟨⟨W5, Below.refl _ W5⟩⟩
    have p0 := fun p : Ven.BelowOf W5 => (HX10d.next p.h).cell 0 _ rfl
    have p1 := fun p : Ven.BelowOf W5 => (HX10d.next p.h).cell 1 _ rfl
    have q0 := fun p : Ven.BelowOf W5 => (hx15.next p.h).cell 0 _ rfl
    have q1 := fun p : Ven.BelowOf W5 => (hx15.next p.h).cell 1 _ rfl
    have v0 := fun p : Ven.BelowOf W5 => (HX11c.next p.h).cell 0 _ rfl
    have v1 := fun p : Ven.BelowOf W5 => (HX11c.next p.h).cell 1 _ rfl
    have v2 := fun p : Ven.BelowOf W5 => (HX11c.next p.h).cell 2 _ rfl
    have v3 := fun p : Ven.BelowOf W5 => (HX11c.next p.h).cell 3 _ rfl
    have v4 := fun p : Ven.BelowOf W5 => (HX11c.next p.h).cell 4 _ rfl
    have u0 := fun p : Ven.BelowOf W5 => (hx13.next p.h).cell 0 _ rfl
    have u1 := fun p : Ven.BelowOf W5 => (hx13.next p.h).cell 1 _ rfl
    have u2 := fun p : Ven.BelowOf W5 => (hx13.next p.h).cell 2 _ rfl
    have u3 := fun p : Ven.BelowOf W5 => (hx13.next p.h).cell 3 _ rfl
    have u4 := fun p : Ven.BelowOf W5 => (hx13.next p.h).cell 4 _ rfl
    have hcd := fun p : Ven.BelowOf W5 => Prn.code_at ((HH.out _ (HB8.out.trans (p.h.mono HB8.out.size))).et) (hf8.next p.h) ⟨by omega, by omega⟩ il ic
    have hsp := fun p : Ven.BelowOf W5 => Prn.spot_at ((HH.out _ (HB8.out.trans (p.h.mono HB8.out.size))).et) (hf8.next p.h) ⟨by omega, by omega⟩ il ic HLI.out
    have hsm := fun p : Ven.BelowOf W5 => same_zero p.w
    clear HX10d HX11c hx13 hx15 hf8
    refine Ven.wp_region_quiet_below Ven.mixed (by kernel_rfl) ?_
    repeat (go_big_quiet_step ((first | (go_at_call 10; exact Ven.Calls.below_of (hcd _)) | (go_at_call 11; exact Ven.Calls.below_of (hsp _)) | (go_at_call 12; exact Ven.Calls.below_of (hsm _)))))
    refine wpQuiet_nil ?_
    intro _ hw'
    obtain ⟨pp, hw''⟩ := hw'
    subst hw''
    have HB9 := hidA (HB8.out.trans (pp.h.mono HB8.out.size))
    clear p0 p1 q0 q1 v0 v1 v2 v3 v4 u0 u1 u2 u3 u4 hcd hsp hsm hne
    go_wp2_with fail
    exact ⟨⟨k + 1, by omega, by go_num, HB9⟩, by simp [intOf]; omega⟩
   | ok V =>
    have hgood := readL_good hr
    have HLS := hidA (show V.seats.length ≤ 4096 from hgood.ls)
    have HLP := hidA (show V.poles.length ≤ 200 from hgood.lp)
    have HNT : Hid (∀ (ord : List Nat) (U : Ven), IsOrder V.seats ord → mayB U = true → U = normU V ord → NormTo V (some U)) := fun ord U ho hm hU => .inr ⟨hgood.ls, hgood.lp, (List.all_eq_true.2 hgood.kill), ord, ho, by rw [← hU, if_pos hm]⟩
    clear hgood
    have hchk := check_any l wr (HH.out _ HB.out).rng (HH.out _ HB.out).et
    rw [hr] at hchk
    simp only [codeOf] at hchk
    go_wp2_with fail
    refine hchk.mono ?_
    clear hchk
    rintro e w2 ⟨rfl, hb2⟩
    have HB2 := hidA (HB.out.trans (hb2.mono HB.out.size))
    have HX10 := hidA (Box.fresh w2 27 #[.int .i64 0, .int .i64 0])
    have HK2 := hidA (below_alloc w2 (.cells #[.int .i64 0, .int .i64 0] 27))
    have hcl2 := (HTX.out.next (HB2.out.trans (HK2.out.mono HB2.out.size))).cell k _ HLK.out
    clear hb2 hcl
    go_wp2_with fail
    generalize w2.alloc (.cells #[.int .i64 0, .int .i64 0] 27) = W2 at *
    have HB3 := hidA (HB2.out.trans (HK2.out.mono HB2.out.size))
    have hven := venue_any l W2 (HH.out _ HB3.out).rng (HH.out _ HB3.out).et (fun p hp => Prn.readL_pos hp)
    unfold VenTo at hven
    rw [hr] at hven
    refine hven.mono ?_
    clear hven
    rintro e w3 ⟨⟨ord, ho, hm, a1, n1, c1, a2, n2, c2, a3, n3, c3, rfl, hva⟩, hb3⟩
    have HVA := hidA hva.at
    have HOR := hidA ho
    have HMB := hidA hm
    obtain ⟨U, hU⟩ : ∃ U, U = normU V ord := ⟨_, rfl⟩
    have hg1 : V.gap = U.gap := by rw [hU]; rfl
    have hg2 : V.radius = U.radius := by rw [hU]; rfl
    have HU := hidA hU
    rw [← hU] at HVA HMB
    rw [hg1, hg2]
    clear hva ho hm hU hg1 hg2
    have HB4 := hidA (HB3.out.trans (hb3.mono HB3.out.size))
    have HX11 := hidA (Box.fresh w3 33 #[.slice a1 n1 c1, .int .i64 U.gap, .int .i64 U.radius, .slice a2 n2 c2, .slice a3 n3 c3])
    have HK3 := hidA (below_alloc w3 (.cells #[.slice a1 n1 c1, .int .i64 U.gap, .int .i64 U.radius, .slice a2 n2 c2, .slice a3 n3 c3] 33))
    have HX10b := hidA ((HX10.out.next hb3).next HK3.out)
    have hcl3 := (HTX.out.next (HB4.out.trans (HK3.out.mono HB4.out.size))).cell k _ HLK.out
    have HV3 := hidA (HVA.out.next HK3.out)
    clear hb3 hcl2 HX10 HB3 HK2 HVA
    go_wp2_with fail
    generalize w3.alloc (.cells #[.slice a1 n1 c1, .int .i64 U.gap, .int .i64 U.radius, .slice a2 n2 c2, .slice a3 n3 c3] 33) = W3 at *
    have HB5 := hidA (HB4.out.trans (HK3.out.mono HB4.out.size))
    have hps := rparse_any l (by omega) W3
    unfold ParseTo at hps
    rw [hr] at hps
    refine hps.mono ?_
    clear hps
    rintro e w4 ⟨⟨r, hrn, hru⟩, hb4⟩
    have hrU : r = some U := (norm_agree (HNT.out _ _ HOR.out HMB.out HU.out) hrn HLS.out HLP.out).symm
    obtain ⟨b1, m1, d1, b2, m2, d2, b3, m3, d3, rfl, hvu⟩ := hru U hrU
    have HVU := hidA hvu
    clear hrn hru hrU hvu
    have HB6 := hidA (HB5.out.trans (hb4.mono HB5.out.size))
    have HX10c := hidA (HX10b.out.next hb4)
    have HX11b := hidA ((HX11.out).next hb4)
    have HV4 := hidA (HV3.out.next hb4)
    clear hb4 hcl3 HX10b HX11 HB4 HB5 HK3 HV3
    go_wp2_with fail
    have hb7 := below_alloc w4 (.cells #[.slice b1 m1 d1, .int .i64 U.gap, .int .i64 U.radius, .slice b2 m2 d2, .slice b3 m3 d3] 33)
    have hb8 := below_alloc (w4.alloc (.cells #[.slice b1 m1 d1, .int .i64 U.gap, .int .i64 U.radius, .slice b2 m2 d2, .slice b3 m3 d3] 33)) (.cells #[.int .i64 0, .int .i64 0] 27)
    have hx13 := (Box.fresh w4 33 #[.slice b1 m1 d1, .int .i64 U.gap, .int .i64 U.radius, .slice b2 m2 d2, .slice b3 m3 d3]).next hb8
    have hx15 := Box.fresh (w4.alloc (.cells #[.slice b1 m1 d1, .int .i64 U.gap, .int .i64 U.radius, .slice b2 m2 d2, .slice b3 m3 d3] 33)) 27 #[.int .i64 0, .int .i64 0]
    rw [World.size_alloc] at hx15
    have HX10d := (HX10c.out.next hb7).next hb8
    have HX11c := (HX11b.out.next hb7).next hb8
    have HB8 := hidA ((HB6.out.trans (hb7.mono HB6.out.size)).trans (hb8.mono (HB6.out.trans (hb7.mono HB6.out.size)).size))
    have hv8 := (HV4.out.next hb7).next hb8
    have hu8 := (HVU.out.next hb7).next hb8
    clear hb7 hb8 HB6 HX10c HX11b
    generalize (w4.alloc (.cells #[.slice b1 m1 d1, .int .i64 U.gap, .int .i64 U.radius, .slice b2 m2 d2, .slice b3 m3 d3] 33)).alloc (.cells #[.int .i64 0, .int .i64 0] 27) = W5 at *
    generalize w4.heap.size + 1 = x15 at *
    generalize w4.heap.size = x13 at *
    generalize w3.heap.size = x11 at *
    generalize w2.heap.size = x10 at *
    have hne : Nonempty (Ven.BelowOf W5) := ⟨⟨W5, Below.refl _ W5⟩⟩
    have p0 := fun p : Ven.BelowOf W5 => (HX10d.next p.h).cell 0 _ rfl
    have p1 := fun p : Ven.BelowOf W5 => (HX10d.next p.h).cell 1 _ rfl
    have q0 := fun p : Ven.BelowOf W5 => (hx15.next p.h).cell 0 _ rfl
    have q1 := fun p : Ven.BelowOf W5 => (hx15.next p.h).cell 1 _ rfl
    have v0 := fun p : Ven.BelowOf W5 => (HX11c.next p.h).cell 0 _ rfl
    have v1 := fun p : Ven.BelowOf W5 => (HX11c.next p.h).cell 1 _ rfl
    have v2 := fun p : Ven.BelowOf W5 => (HX11c.next p.h).cell 2 _ rfl
    have v3 := fun p : Ven.BelowOf W5 => (HX11c.next p.h).cell 3 _ rfl
    have v4 := fun p : Ven.BelowOf W5 => (HX11c.next p.h).cell 4 _ rfl
    have u0 := fun p : Ven.BelowOf W5 => (hx13.next p.h).cell 0 _ rfl
    have u1 := fun p : Ven.BelowOf W5 => (hx13.next p.h).cell 1 _ rfl
    have u2 := fun p : Ven.BelowOf W5 => (hx13.next p.h).cell 2 _ rfl
    have u3 := fun p : Ven.BelowOf W5 => (hx13.next p.h).cell 3 _ rfl
    have u4 := fun p : Ven.BelowOf W5 => (hx13.next p.h).cell 4 _ rfl
    have hcd := fun p : Ven.BelowOf W5 => code_none p.w
    have hsp := fun p : Ven.BelowOf W5 => spot_none0 ((HH.out _ (HB8.out.trans (p.h.mono HB8.out.size))).et)
    have hsm : ∀ p : Ven.BelowOf W5, Calls Tryz.prog 12 #[venV a1 n1 c1 U.gap U.radius a2 n2 c2 a3 n3 c3, venV b1 m1 d1 U.gap U.radius b2 m2 d2 b3 m3 d3] p.w fun e w' => e = .returned (.bool true) ∧ Below p.w.heap.size p.w w' := fun p => by
     have := Ven.rsame_any _ _ _ _ _ _ _ _ _ _ _ _ _ _ _ _ _ _ U U p.w (hv8.next p.h) (hu8.next p.h)
     rw [(Ven.sameB_iff U U).2 rfl] at this
     exact this
    clear HX10d HX11c hx13 hx15 hv8 hu8
    refine Ven.wp_region_quiet_below Ven.mixed (by kernel_rfl) ?_
    repeat (go_big_quiet_step ((first | (go_at_call 10; exact Ven.Calls.below_of (hcd _)) | (go_at_call 11; exact Ven.Calls.below_of (hsp _)) | (go_at_call 12; exact Ven.Calls.below_of (hsm _)))))
    refine wpQuiet_nil ?_
    intro _ hw'
    obtain ⟨pp, hw''⟩ := hw'
    subst hw''
    have HB9 := hidA (HB8.out.trans (pp.h.mono HB8.out.size))
    clear p0 p1 q0 q1 v0 v1 v2 v3 v4 u0 u1 u2 u3 u4 hcd hsp hsm hne
    go_wp2_with fail
    exact ⟨⟨k + 1, by omega, by go_num, HB9⟩, by simp [intOf]; omega⟩
  ·have hkz : ¬ (k : Int) < 4 := by omega
   go_wp2_with fail
   refine (told_any _ (HH.out _ HB.out)).mono ?_
   rintro e w5 ⟨rfl, hb5⟩
   have HF := hidA (HBW.out.trans ((HB.out.trans (hb5.mono HB.out.size)).mono HBW.out.size))
   clear hb5
   go_wp2
   go_ret
   exact ⟨rfl, HF.out⟩
end Go.Proofs.YtgpkdjhllekihaaGreatDoor.Ask
