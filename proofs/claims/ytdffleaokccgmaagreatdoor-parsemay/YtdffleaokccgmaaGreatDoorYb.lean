/- (*hall).whole by its contract; parse.read by its contract; A venue that was read may be, once it is sorted; errors.As at the target *wrong of package parse, by contracts; parse.ask, parse.toFault, parse.Check, parse.Venue by their contracts; parse.toFault, parse.Venue by their contracts; What the texts that told reads come to; parterrelaw4.told answers true; Where a text is read wrongly: a code, a place within the text (no program in it); What the rows' conditions give the walks: strconv.ErrRange holds an error; the type's handle; The texts of ParseFirst, and what reading them comes to; The texts of ParseKills, and what reading them comes to (no program in it); What the templates of print and of the document's own printer have in common; parterrelaw4.Text by its contract: some text; what a text that is read wrongly has for a code; What is read, whatever it is, may be; ParseMay answers true: its walk; ParseKills answers true: its walk. -/
import Derived.Test.YtdffleaokccgmaaGreatDoorYa
import Derived.Test.YtdffleaokccgmaaGreatDoorVNorm
import Derived.Test.YtdffleaokccgmaaGreatDoorTLinesP
import Derived.Test.YtdffleaokccgmaaGreatDoorVRAgree
import Derived.Test.YtdffleaokccgmaaGreatDoorVBox
import Derived.WalkKit
import Derived.LaidEql
import Derived.Stop.Asserts
import Derived.RowKitTokens
import Derived.Test.YtdffleaokccgmaaGreatDoorFNew
import Derived.Deep.RegionWith
import Derived.Test.YtdffleaokccgmaaGreatDoorFSpotC
import Derived.Test.YtdffleaokccgmaaGreatDoorVRSeats
import Derived.Test.YtdffleaokccgmaaGreatDoorRows
import Derived.Stop.LaidErr
import Derived.ChangeSame
import Derived.ChangeVars
import Derived.JoinedOf
import Derived.RowKit
import Derived.LaidLaws
import Derived.LaidHandle
import Derived.LaidOnce
import Derived.LaidMore
import Derived.Stop.Joined
import Derived.ProofKit
import Derived.OpenShut
import Derived.Test.YtdffleaokccgmaaGreatDoorVSl
import Derived.Test.YtdffleaokccgmaaGreatDoorVOrdP
import Derived.Test.YtdffleaokccgmaaGreatDoorVInv
import Derived.Lib.FrozenHead
import Derived.StillTailTactics
import Derived.Test.YtdffleaokccgmaaGreatDoorTText
import Derived.Test.YtdffleaokccgmaaGreatDoorVRWrong
namespace Go.Proofs.YtdffleaokccgmaaGreatDoor.Par
set_option linter.unusedVariables false
set_option maxRecDepth 100000
open Go.RowKit Go.Shelf Go.Maps
open Go.Proofs.YtdffleaokccgmaaGreatDoor.Ven (Seat Pole Ven seatC poleC intC Box row_sl Sl venV venZ VenAt VenOwn NormTo NormOwn norm_own seatC_len poleC_len)
open Go.Proofs.YtdffleaokccgmaaGreatDoor.Prs (atI wordK kindL letsK)

theorem OwnH.setNew {base : Nat} {W W' : World} (h : OwnH base W W') {b : Nat} (hb : W.heap.size ≤ b) (i : Nat) (v : Value) : OwnH base W (W'.setCell ⟨b, i, none⟩ v) :=
  ⟨h.os, h.tape, h.output, by simpa using h.size, fun k hk hl => by rw [Below.heap_setCell W' _ v k (show k ≠ b by omega)]; exact h.low k hk hl,
    fun k cs t z hk ht => by
      have hlt := (Array.getElem?_eq_some_iff.1 hk).1
      rw [Below.heap_setCell W' _ v k (show k ≠ b by omega)]; exact h.block k cs t z hk ht⟩
theorem OwnH.next {base : Nat} {W W' W'' : World} (h : OwnH base W W') (hb : Below W'.heap.size W' W'') : OwnH base W W'' := h.trans (OwnH.of_below hb)
variable {w : World} {base hb : Nat} {az : Option Addr} {cs : Nat} {ak : Option Addr} {ck : Nat} {ap : Option Addr} {cp mb : Nat} {af : Option Addr} {cf : Nat} {s : St} {K : List Int} {fs : List Fact}
theorem Hall.ven (h : Hall w base hb az cs ak ck ap cp mb af cf s K fs) : VenAt w az s.seats.length cs ak K.length ck ap s.poles.length cp ⟨s.seats, s.gap, s.radius, K, s.poles⟩ :=
  ⟨row_sl seatC_len h.so, row_sl intC_len h.ko, row_sl poleC_len h.po⟩
/-- How a venue, or an error, is handed back: 'none': it could not be sorted. -/
def Handed (li co : Int) (V : Ven) (e : Ending) (w' : World) : Prop := ∃ r, NormTo V r ∧ match r with
  | none => e = .returned (.tuple #[venZ, wrongV 2 li co])
  | some U => ∃ b1 m1 d1 b2 m2 d2 b3 m3 d3, e = .returned (.tuple #[venV b1 m1 d1 U.gap U.radius b2 m2 d2 b3 m3 d3, .nilIface]) ∧ VenOwn w' b1 m1 d1 b2 m2 d2 b3 m3 d3 U
def WholeTo (w : World) (base : Nat) (li co : Int) (o : Except (Int × Int) Ven) (e : Ending) (w' : World) : Prop :=
  (match o with
  | .error p => e = .returned (.tuple #[venZ, wrongV 2 p.1 p.2])
  | .ok V => Handed li co V e w') ∧ OwnH base w w'
theorem WholeTo.bad {w : World} {base : Nat} {li co : Int} {o : Except (Int × Int) Ven} {p : Int × Int} {w' : World} (ho : o = .error p) (h : OwnH base w w') : WholeTo w base li co o (.returned (.tuple #[venZ, wrongV 2 p.1 p.2])) w' := by subst ho; exact ⟨rfl, h⟩
theorem wholeL_none {s : St} {e : Int × Int} (h : s.seats = [] ∨ s.gap = 0) : wholeL s e = .error e := by unfold wholeL; rw [if_pos h]
theorem wholeL_kills {s : St} {e p : Int × Int} (h : ¬ (s.seats = [] ∨ s.gap = 0)) (hk : killsL s.seats s.kills [] = .error p) : wholeL s e = .error p := by unfold wholeL; rw [if_neg h, hk]
theorem wholeL_ok {s : St} {e : Int × Int} {K : List Int} (h : ¬ (s.seats = [] ∨ s.gap = 0)) (hk : killsL s.seats s.kills [] = .ok K) : wholeL s e = .ok ⟨s.seats, s.gap, s.radius, K, s.poles⟩ := by unfold wholeL; rw [if_neg h, hk]
theorem killsL_at {S : List Seat} {ks : List Kill} {acc K : List Int} {i : Nat} (h : killsL S ks acc = killsL S (ks.drop i) K) (hi : i < ks.length) : killsL S ks acc = if atI S ks[i].row ks[i].x < 0 then .error ks[i].first else if atI S ks[i].row ks[i].x ∈ K then .error ks[i].word else killsL S (ks.drop (i + 1)) (K ++ [atI S ks[i].row ks[i].x]) := by
  rw [h, List.drop_eq_getElem_cons hi]; rfl
set_option maxHeartbeats 4000000 in
theorem whole_any (h : Hall w base hb az cs ak ck ap cp mb af cf s [] fs) (li co : Int) :
    Calls Tryz.prog 36 #[.pointer (some ⟨hb, 0, none⟩), .agg #[.int .i64 li, .int .i64 co]] w fun e w' => WholeTo w base li co (wholeL s (li, co)) e w' := by
  have hbW : Below w.heap.size w ((w.alloc (.cells #[.int .i64 li, .int .i64 co] 27)).alloc (.cells #[.slice none 0 0, .int .i64 0, .int .i64 0, .slice none 0 0, .slice none 0 0] 33)) := ((Below.refl _ w).alloc (Nat.le_refl _) _).alloc (by simp) _
  have hsp : Box ((w.alloc (.cells #[.int .i64 li, .int .i64 co] 27)).alloc (.cells #[.slice none 0 0, .int .i64 0, .int .i64 0, .slice none 0 0, .slice none 0 0] 33)) w.heap.size 27 #[.int .i64 li, .int .i64 co] := (Box.fresh w _ _).next ((Below.refl _ _).alloc (Nat.le_refl _) _)
  have hvn : Box ((w.alloc (.cells #[.int .i64 li, .int .i64 co] 27)).alloc (.cells #[.slice none 0 0, .int .i64 0, .int .i64 0, .slice none 0 0, .slice none 0 0] 33)) (w.heap.size + 1) 33 #[.slice none 0 0, .int .i64 0, .int .i64 0, .slice none 0 0, .slice none 0 0] := by
    have := Box.fresh (w.alloc (.cells #[.int .i64 li, .int .i64 co] 27)) 33 #[.slice none 0 0, .int .i64 0, .int .i64 0, .slice none 0 0, .slice none 0 0]
    rw [World.size_alloc] at this; exact this
  have hHW := h.next hbW
  have hx := h.box
  have b0 := hx.cell 0 _ rfl
  have b1 := hx.cell 1 _ rfl
  have b6 := hx.cell 6 _ rfl
  have blt := hx.lt
  have b1w := hHW.box.cell 1 _ rfl
  have bltw := hHW.box.lt
  have hls := h.ls
  have hlk := h.lk
  have HBW : Hid (Below w.heap.size w ((w.alloc (.cells #[.int .i64 li, .int .i64 co] 27)).alloc (.cells #[.slice none 0 0, .int .i64 0, .int .i64 0, .slice none 0 0, .slice none 0 0] 33))) := hbW
  have HHW : Hid (Hall ((w.alloc (.cells #[.int .i64 li, .int .i64 co] 27)).alloc (.cells #[.slice none 0 0, .int .i64 0, .int .i64 0, .slice none 0 0, .slice none 0 0] 33)) base hb az cs ak ck ap cp mb af cf s [] fs) := hHW
  have HSP : Hid (Box ((w.alloc (.cells #[.int .i64 li, .int .i64 co] 27)).alloc (.cells #[.slice none 0 0, .int .i64 0, .int .i64 0, .slice none 0 0, .slice none 0 0] 33)) w.heap.size 27 #[.int .i64 li, .int .i64 co]) := hsp
  have HVN : Hid (Box ((w.alloc (.cells #[.int .i64 li, .int .i64 co] 27)).alloc (.cells #[.slice none 0 0, .int .i64 0, .int .i64 0, .slice none 0 0, .slice none 0 0] 33)) (w.heap.size + 1) 33 #[.slice none 0 0, .int .i64 0, .int .i64 0, .slice none 0 0, .slice none 0 0]) := hvn
  clear hbW hHW hsp hvn hx
  have hgap := hasGap_any hb s.gap _ bltw b1w
  clear b1w bltw
  by_cases hse : s.seats = []
  · have HE : Hid (wholeL s (li, co) = .error (li, co)) := wholeL_none (.inl hse)
    have hz : ((s.seats.length : Int) == 0) = true := by simp [hse]
    clear hse hgap
    generalize s.seats.length = sl at b0 hz hls
    go_enter Tryz.func36, Tryz.ntmps36
    go_wp2_with fail
    refine (wrongAt_any li co _).mono ?_
    rintro e w1 ⟨rfl, hb1⟩
    clear b0 b1 b6 blt
    have vx := HVN.out.next hb1
    have v0 := vx.cell 0 _ rfl
    have vf0 := vx.frozen 0
    have v1 := vx.cell 1 _ rfl
    have vf1 := vx.frozen 1
    have v2 := vx.cell 2 _ rfl
    have vf2 := vx.frozen 2
    have v3 := vx.cell 3 _ rfl
    have vf3 := vx.frozen 3
    have v4 := vx.cell 4 _ rfl
    have vf4 := vx.frozen 4
    have vl := vx.lt
    have HOW : Hid (OwnH base w w1) := OwnH.of_below (HBW.out.trans (hb1.mono HBW.out.size))
    clear vx
    go_wp2_with fail
    refine bodyPost_ret (v := .tuple #[venZ, wrongV 2 li co]) (by simp [results, Tryz.results36, go_sem, v0, v1, v2, v3, v4]) rfl ?_
    exact WholeTo.bad HE.out (((((HOW.out.setNew (by omega) 0 _).setNew (by omega) 1 _).setNew (by omega) 2 _).setNew (by omega) 3 _).setNew (by omega) 4 _)
  · have hz : ((s.seats.length : Int) == 0) = false := by
      have : ¬ s.seats.length = 0 := fun hc => hse (List.length_eq_zero_iff.1 hc)
      simp; omega
    have HSE : Hid (¬ s.seats = []) := hse
    clear hse
    go_enter Tryz.func36, Tryz.ntmps36
    go_wp2_with fail
    refine hgap.mono ?_
    rintro e w1 ⟨rfl, rfl⟩
    clear hgap
    by_cases hg0 : s.gap = 0
    · have HE : Hid (wholeL s (li, co) = .error (li, co)) := wholeL_none (.inr hg0)
      have hgb : (s.gap == 0) = true := by simp [hg0]
      rw [hgb]
      clear hg0 hgb
      go_wp2_with fail
      refine (wrongAt_any li co _).mono ?_
      rintro e w1 ⟨rfl, hb1⟩
      clear b0 b1 b6 blt
      have vx := HVN.out.next hb1
      have v0 := vx.cell 0 _ rfl
      have vf0 := vx.frozen 0
      have v1 := vx.cell 1 _ rfl
      have vf1 := vx.frozen 1
      have v2 := vx.cell 2 _ rfl
      have vf2 := vx.frozen 2
      have v3 := vx.cell 3 _ rfl
      have vf3 := vx.frozen 3
      have v4 := vx.cell 4 _ rfl
      have vf4 := vx.frozen 4
      have vl := vx.lt
      have HOW : Hid (OwnH base w w1) := OwnH.of_below (HBW.out.trans (hb1.mono HBW.out.size))
      clear vx
      go_wp2_with fail
      refine bodyPost_ret (v := .tuple #[venZ, wrongV 2 li co]) (by simp [results, Tryz.results36, go_sem, v0, v1, v2, v3, v4]) rfl ?_
      exact WholeTo.bad HE.out (((((HOW.out.setNew (by omega) 0 _).setNew (by omega) 1 _).setNew (by omega) 2 _).setNew (by omega) 3 _).setNew (by omega) 4 _)
    · have hgb : (s.gap == 0) = false := by simpa using hg0
      have HG0 : Hid (¬ (s.seats = [] ∨ s.gap = 0)) := fun hc => hc.elim HSE.out hg0
      rw [hgb]
      clear hg0 hgb HSE
      go_wp2_with fail
      have HFL : Hid (fs.length = s.kills.length) := HHW.out.fl
      clear b0 b1 b6 blt hz h
      go_loopw [7, 8, 31] (fun _ _ i wr => ∃ (k : Nat) (ak : Option Addr) (ck : Nat) (K : List Int), k ≤ s.kills.length ∧ i = .int .i64 k ∧ Hid (Hall wr base hb az cs ak ck ap cp mb af cf s K fs) ∧ Hid (K.length = k) ∧ Hid (killsL s.seats s.kills [] = killsL s.seats (s.kills.drop k) K) ∧ Hid (OwnH base w wr) ∧ Hid (Box wr w.heap.size 27 #[.int .i64 li, .int .i64 co]) ∧ Hid (Box wr (w.heap.size + 1) 33 #[.slice none 0 0, .int .i64 0, .int .i64 0, .slice none 0 0, .slice none 0 0])) (fun _ _ i _ => s.kills.length - (intOf i).toNat)
      case atStart => exact ⟨0, ak, ck, [], Nat.zero_le _, rfl, HHW.out, rfl, rfl, OwnH.of_below HBW.out, HSP.out, HVN.out⟩
      case round =>
        obtain ⟨k, ak, ck, K, hk, rfl, HHR, HKL, HKI, HOR, HSR, HVR⟩ := hrel
        by_cases hlt : k < s.kills.length
        · have hltz : (k : Int) < (s.kills.length : Int) := by omega
          have hkf : k < fs.length := by have := HFL.out; omega
          have hsl : Sl 6 factC wr (.slice af fs.length cf) fs := row_sl factC_len (by have := HHR.out.fo; rw [← HFL.out] at this; exact this)
          obtain ⟨b, off, rfl, hC⟩ := Ven.cells_of_pos hsl hkf
          have hfi := HHR.out.ft k hkf
          have hat := killsL_at HKI.out hlt
          have hbl := hC.1
          obtain ⟨f, hfk⟩ : ∃ f, fs[k]'hkf = f := ⟨_, rfl⟩
          obtain ⟨⟨tk, tn, tl, tc, tt⟩, rest, g, cap⟩ := f
          rw [hfk] at hfi
          have c0 : wr.cell? ⟨b, off + k * 6, none⟩ = some (.int .i64 tk) := hC.2 k hkf 0 _ (by rw [hfk]; rfl)
          have c1 : wr.cell? ⟨b, off + k * 6 + 1, none⟩ = some (.int .i64 tn) := hC.2 k hkf 1 _ (by rw [hfk]; rfl)
          have c2 : wr.cell? ⟨b, off + k * 6 + 2, none⟩ = some (.int .i64 tl) := hC.2 k hkf 2 _ (by rw [hfk]; rfl)
          have c3 : wr.cell? ⟨b, off + k * 6 + 3, none⟩ = some (.int .i64 tc) := hC.2 k hkf 3 _ (by rw [hfk]; rfl)
          have c4 : wr.cell? ⟨b, off + k * 6 + 4, none⟩ = some (.string ⟨tt.toArray⟩) := hC.2 k hkf 4 _ (by rw [hfk]; rfl)
          have c5 : wr.cell? ⟨b, off + k * 6 + 5, none⟩ = some (.slice (restA g cap) rest.length (cap - 1)) := hC.2 k hkf 5 _ (by rw [hfk]; rfl)
          generalize s.kills[k]'hlt = kl at hfi hat
          obtain ⟨r, x, ⟨wl, wc⟩, ⟨fl, fc⟩⟩ := kl
          obtain ⟨rfl, rfl⟩ : wl = tl ∧ wc = tc := by
            have := hfi.kill
            injection this with _ _ h3 _
            simp only [spotT, Prod.mk.injEq] at h3; exact h3
          have HAT : Hid (killsL s.seats s.kills [] = if atI s.seats r x < 0 then .error (fl, fc) else if atI s.seats r x ∈ K then .error (wl, wc) else killsL s.seats (s.kills.drop (k + 1)) (K ++ [atI s.seats r x])) := hat
          have hB1 : Below wr.heap.size wr (wr.alloc (.cells #[.int .i64 tk, .int .i64 tn, .int .i64 wl, .int .i64 wc, .string ⟨tt.toArray⟩, .slice (restA g cap) rest.length (cap - 1)] 117)) := (Below.refl _ wr).alloc (Nat.le_refl _) _
          have hkc := kill_any (HHR.out.next hB1) tk tn wl wc tt rest g cap r x fl fc (hfi.own (OwnH.of_below (base := 0) hB1)) (by have := HKL.out; omega)
          have HB1 : Hid (Below wr.heap.size wr (wr.alloc (.cells #[.int .i64 tk, .int .i64 tn, .int .i64 wl, .int .i64 wc, .string ⟨tt.toArray⟩, .slice (restA g cap) rest.length (cap - 1)] 117))) := hB1
          clear hat hfi hC hsl hB1 hfk
          go_wp2_with fail
          refine hkc.mono ?_
          intro e w2 hKT
          clear hkc c0 c1 c2 c3 c4 c5
          obtain ⟨hKT, hO2⟩ := hKT
          have HO2 : Hid (OwnH base (wr.alloc (.cells #[.int .i64 tk, .int .i64 tn, .int .i64 wl, .int .i64 wc, .string ⟨tt.toArray⟩, .slice (restA g cap) rest.length (cap - 1)] 117)) w2) := hO2
          have HS2 : Hid (Box w2 w.heap.size 27 #[.int .i64 li, .int .i64 co]) := HO2.out.box (HSR.out.next HB1.out) (by decide)
          have HV2 : Hid (Box w2 (w.heap.size + 1) 33 #[.slice none 0 0, .int .i64 0, .int .i64 0, .slice none 0 0, .slice none 0 0]) := HO2.out.box (HVR.out.next HB1.out) (by decide)
          have HOR2 : Hid (OwnH base w w2) := (HOR.out.next HB1.out).trans HO2.out
          clear hO2
          by_cases ha : atI s.seats r x < 0
          · rw [if_pos ha] at hKT
            subst hKT
            have HE : Hid (wholeL s (li, co) = .error (fl, fc)) := wholeL_kills HG0.out (by rw [HAT.out, if_pos ha])
            clear ha
            have vx := HV2.out
            have v0 := vx.cell 0 _ rfl
            have vf0 := vx.frozen 0
            have v1 := vx.cell 1 _ rfl
            have vf1 := vx.frozen 1
            have v2 := vx.cell 2 _ rfl
            have vf2 := vx.frozen 2
            have v3 := vx.cell 3 _ rfl
            have vf3 := vx.frozen 3
            have v4 := vx.cell 4 _ rfl
            have vf4 := vx.frozen 4
            have vl := vx.lt
            have HOW : Hid (OwnH base w w2) := HOR2.out
            clear vx
            go_wp2_with fail
            refine bodyPost_ret (v := .tuple #[venZ, wrongV 2 fl fc]) (by simp [results, Tryz.results36, go_sem, v0, v1, v2, v3, v4]) rfl ?_
            exact WholeTo.bad HE.out (((((HOW.out.setNew (by omega) 0 _).setNew (by omega) 1 _).setNew (by omega) 2 _).setNew (by omega) 3 _).setNew (by omega) 4 _)
          · rw [if_neg ha] at hKT
            by_cases hm : atI s.seats r x ∈ K
            · rw [if_pos hm] at hKT
              subst hKT
              have HE : Hid (wholeL s (li, co) = .error (wl, wc)) := wholeL_kills HG0.out (by rw [HAT.out, if_neg ha, if_pos hm])
              clear ha hm
              have vx := HV2.out
              have v0 := vx.cell 0 _ rfl
              have vf0 := vx.frozen 0
              have v1 := vx.cell 1 _ rfl
              have vf1 := vx.frozen 1
              have v2 := vx.cell 2 _ rfl
              have vf2 := vx.frozen 2
              have v3 := vx.cell 3 _ rfl
              have vf3 := vx.frozen 3
              have v4 := vx.cell 4 _ rfl
              have vf4 := vx.frozen 4
              have vl := vx.lt
              have HOW : Hid (OwnH base w w2) := HOR2.out
              clear vx
              go_wp2_with fail
              refine bodyPost_ret (v := .tuple #[venZ, wrongV 2 wl wc]) (by simp [results, Tryz.results36, go_sem, v0, v1, v2, v3, v4]) rfl ?_
              exact WholeTo.bad HE.out (((((HOW.out.setNew (by omega) 0 _).setNew (by omega) 1 _).setNew (by omega) 2 _).setNew (by omega) 3 _).setNew (by omega) 4 _)
            · rw [if_neg hm] at hKT
              obtain ⟨rfl, ak2, ck2, hH2⟩ := hKT
              have HH2 : Hid (Hall w2 base hb az cs ak2 ck2 ap cp mb (some ⟨b, off, none⟩) cf s (K ++ [atI s.seats r x]) fs) := hH2
              have HKI2 : Hid (killsL s.seats s.kills [] = killsL s.seats (s.kills.drop (k + 1)) (K ++ [atI s.seats r x])) := by
                show _ = _
                rw [HAT.out, if_neg ha, if_neg hm]
              clear ha hm hH2
              go_wp2_with fail
              go_roundw
              case rel => exact ⟨k + 1, ak2, ck2, K ++ [atI s.seats r x], by omega, by go_num, HH2, by show _ = _; rw [List.length_append, HKL.out]; rfl, HKI2, HOR2, HS2, HV2⟩
              case measure => simp [intOf]; omega
        · have hltz : ¬ (k : Int) < (s.kills.length : Int) := by omega
          have HE : Hid (wholeL s (li, co) = .ok ⟨s.seats, s.gap, s.radius, K, s.poles⟩) := wholeL_ok HG0.out (by rw [HKI.out, List.drop_of_length_le (by omega)]; rfl)
          have hx := HHR.out.box
          have b0 := hx.cell 0 _ rfl
          have b1 := hx.cell 1 _ rfl
          have b2 := hx.cell 2 _ rfl
          have b3 := hx.cell 3 _ rfl
          have b4 := hx.cell 4 _ rfl
          have bl := hx.lt
          have hnm := norm_own az ak ap s.seats.length cs K.length ck s.poles.length cp ⟨s.seats, s.gap, s.radius, K, s.poles⟩ wr HHR.out.ven
          clear hx
          go_wp2_with fail
          refine hnm.mono ?_
          rintro e w1 ⟨r, hN, hR, hb1⟩
          have HN : Hid (NormTo ⟨s.seats, s.gap, s.radius, K, s.poles⟩ r) := hN
          clear hnm b0 b1 b2 b3 b4 bl hN
          cases r with
          | none =>
            have hR' : e = .returned (.tuple #[venZ, .bool false]) := hR
            subst hR'
            have s1 := HSR.out.next hb1
            have z0 := s1.cell 0 _ rfl
            have z1 := s1.cell 1 _ rfl
            have zl := s1.lt
            have HB1 : Hid (Below wr.heap.size wr w1) := hb1
            clear hb1 s1
            go_wp2_with fail
            refine (wrongAt_any li co _).mono ?_
            rintro e w2 ⟨rfl, hb2⟩
            have hB12 : Below w1.heap.size w1 w2 := ((Below.refl _ w1).alloc (Nat.le_refl _) _).trans (hb2.mono (by simp))
            have hB02 := HB1.out.trans (hB12.mono HB1.out.size)
            clear z0 z1 zl
            have HW2 : Hid (Below wr.heap.size wr w2) := hB02
            clear hB12 hB02 hb2
            have vx := HVR.out.next HW2.out
            have v0 := vx.cell 0 _ rfl
            have vf0 := vx.frozen 0
            have v1 := vx.cell 1 _ rfl
            have vf1 := vx.frozen 1
            have v2 := vx.cell 2 _ rfl
            have vf2 := vx.frozen 2
            have v3 := vx.cell 3 _ rfl
            have vf3 := vx.frozen 3
            have v4 := vx.cell 4 _ rfl
            have vf4 := vx.frozen 4
            have vl := vx.lt
            have HOW : Hid (OwnH base w w2) := HOR.out.next HW2.out
            clear vx
            go_wp2_with fail
            refine bodyPost_ret (v := .tuple #[venZ, wrongV 2 li co]) (by simp [results, Tryz.results36, go_sem, v0, v1, v2, v3, v4]) rfl ?_
            rw [HE.out]
            exact ⟨⟨none, HN.out, rfl⟩, ((((HOW.out.setNew (by omega) 0 _).setNew (by omega) 1 _).setNew (by omega) 2 _).setNew (by omega) 3 _).setNew (by omega) 4 _⟩
          | some U =>
            obtain ⟨p1, m1, d1, p2, m2, d2, p3, m3, d3, rfl, hU⟩ := hR
            have hvx := HVR.out.next hb1
            have HVX : Hid (Box w1 (w.heap.size + 1) 33 #[.slice none 0 0, .int .i64 0, .int .i64 0, .slice none 0 0, .slice none 0 0]) := hvx
            have v0 := hvx.cell 0 _ rfl
            have v1 := hvx.cell 1 _ rfl
            have v2 := hvx.cell 2 _ rfl
            have v3 := hvx.cell 3 _ rfl
            have v4 := hvx.cell 4 _ rfl
            have f0 := hvx.frozen 0
            have f1 := hvx.frozen 1
            have f2 := hvx.frozen 2
            have f3 := hvx.frozen 3
            have f4 := hvx.frozen 4
            have vl := hvx.lt
            have HOW : Hid (OwnH base w w1) := HOR.out.next hb1
            have HU : Hid (VenOwn w1 p1 m1 d1 p2 m2 d2 p3 m3 d3 U) := hU
            clear hU hb1 hvx
            go_wp2_with fail
            refine bodyPost_ret (v := .tuple #[venV p1 m1 d1 U.gap U.radius p2 m2 d2 p3 m3 d3, .nilIface]) (by simp [results, Tryz.results36, go_sem, vl, v0, v1, v2, v3, v4]) rfl ?_
            rw [HE.out]
            have x0 := HVX.out
            have u0 := HU.out
            have x1 := x0.set 0 (.slice p1 m1 d1)
            have u1 := u0.set x0 (by decide) (by decide) (by decide) 0 (.slice p1 m1 d1)
            have x2 := x1.set 1 (.int .i64 U.gap)
            have u2 := u1.set x1 (by decide) (by decide) (by decide) 1 (.int .i64 U.gap)
            have x3 := x2.set 2 (.int .i64 U.radius)
            have u3 := u2.set x2 (by decide) (by decide) (by decide) 2 (.int .i64 U.radius)
            have x4 := x3.set 3 (.slice p2 m2 d2)
            have u4 := u3.set x3 (by decide) (by decide) (by decide) 3 (.slice p2 m2 d2)
            have u5 := u4.set x4 (by decide) (by decide) (by decide) 4 (.slice p3 m3 d3)
            exact ⟨⟨some U, HN.out, p1, m1, d1, p2, m2, d2, p3, m3, d3, rfl, u5.next ((Below.refl _ _).alloc (Nat.le_refl _) _)⟩, (((((HOW.out.setNew (by omega) 0 _).setNew (by omega) 1 _).setNew (by omega) 2 _).setNew (by omega) 3 _).setNew (by omega) 4 _).next ((Below.refl _ _).alloc (Nat.le_refl _) _)⟩
end Go.Proofs.YtdffleaokccgmaaGreatDoor.Par

namespace Go.Proofs.YtdffleaokccgmaaGreatDoor.Par
set_option linter.unusedVariables false
set_option maxRecDepth 100000
open Go.RowKit Go.Shelf Go.Maps
open Go.Proofs.YtdffleaokccgmaaGreatDoor.Ven (Seat Pole Ven seatC poleC intC Box row_next row_slice row_setCell venV venZ VenOwn NormTo)
open Go.Proofs.YtdffleaokccgmaaGreatDoor.Prs (atI wordK kindL letsK)

theorem all_large (l : List UInt8) (hl : 1048576 < l.length) (w : World) :
    Calls Tryz.prog 33 #[.string ⟨l.toArray⟩] w fun e w' => e = .returned (.tuple #[.slice none 0 0, .agg #[.int .i64 0, .int .i64 0], .int .i64 3]) ∧ Below w.heap.size w w' := by
  have hz : (1048576 : Int) < (l.length : Int) := by omega
  go_enter Tryz.func33, Tryz.ntmps33
  go_wp2
  refine bodyPost_ret (v := .tuple #[.slice none 0 0, .agg #[.int .i64 0, .int .i64 0], .int .i64 3]) (by simp [results, Tryz.results33, go_sem]) rfl ?_
  exact ⟨rfl, (Below.refl _ w).alloc (Nat.le_refl _) _⟩
/-- A hall of which nothing was told. -/
theorem Hall.fresh (w : World) : Hall ((w.alloc (.map #[] 0)).alloc (.cells #[.slice none 0 0, .int .i64 0, .int .i64 0, .slice none 0 0, .slice none 0 0, .map (some w.heap.size), .slice none 0 0, .bool false] 91)) w.heap.size (w.heap.size + 1) none 0 none 0 none 0 w.heap.size none 0 St.zero [] [] :=
  { hbase := by simp; omega, ge := by omega, mge := Nat.le_refl _
    box := by
      have := Box.fresh (w.alloc (.map #[] 0)) 91 #[.slice none 0 0, .int .i64 0, .int .i64 0, .slice none 0 0, .slice none 0 0, .map (some w.heap.size), .slice none 0 0, .bool false]
      rw [World.size_alloc] at this; exact this
    so := World.ownsRow_nil _ _ _ _, ko := World.ownsRow_nil _ _ _ _, po := World.ownsRow_nil _ _ _ _, fo := World.ownsRow_nil _ _ _ _
    fl := rfl, ft := fun i hi => absurd hi (Nat.not_lt_zero _)
    map := ⟨.map [], 0, by
      have hB : Below (w.alloc (.map #[] 0)).heap.size (w.alloc (.map #[] 0)) ((w.alloc (.map #[] 0)).alloc (.cells #[.slice none 0 0, .int .i64 0, .int .i64 0, .slice none 0 0, .slice none 0 0, .map (some w.heap.size), .slice none 0 0, .bool false] 91)) := (Below.refl _ _).alloc (Nat.le_refl _) _
      exact (World.ownsMap_made w Tryz.prog 158 (plainElem Tryz.prog 3)).kept (row := none) ⟨hB.os, hB.tape, hB.output, hB.size, fun k hk _ => hB.block k hk⟩ (by simp), Nat.zero_le _, MapOf.nil⟩
    ls := by decide, lp := by decide, lk := by decide, lK := by decide }
/-- What reading a text comes to. -/
def TextTo (w : World) (o : Except (Int × Int × Int) Ven) (e : Ending) (w' : World) : Prop :=
  (match o with
  | .error p => e = .returned (.tuple #[venZ, wrongV p.1 p.2.1 p.2.2])
  | .ok V => ∃ li co, Handed li co V e w') ∧ Below w.heap.size w w'
theorem TextTo.bad {w : World} {o : Except (Int × Int × Int) Ven} {c li co : Int} {w' : World} (ho : o = .error (c, li, co)) (h : Below w.heap.size w w') : TextTo w o (.returned (.tuple #[venZ, wrongV c li co])) w' := by subst ho; exact ⟨rfl, h⟩
theorem readL_large {l : List UInt8} (h : 1048576 < l.length) : readL l = .error (3, 0, 0) := by unfold readL; rw [if_pos h]
theorem readL_bad {l : List UInt8} (h : ¬ 1048576 < l.length) {ts : List T} {li co code : Int} (hA : Tok.allOf l = (ts, li, co, code)) (hc : ¬ code = 0) : readL l = .error (code, li, co) := by
  unfold readL; rw [if_neg h]; simp only [hA]; rw [if_neg hc]
theorem readL_line {l : List UInt8} (h : ¬ 1048576 < l.length) {ts : List T} {li co : Int} (hA : Tok.allOf l = (ts, li, co, 0)) {p : Int × Int} (hl : linesL ts (li, co) (ts.length + 1) 0 St.zero = .error p) : readL l = .error (2, p) := by
  unfold readL; rw [if_neg h]; simp only [hA, hl]; rfl
theorem readL_whole {l : List UInt8} (h : ¬ 1048576 < l.length) {ts : List T} {li co : Int} (hA : Tok.allOf l = (ts, li, co, 0)) {s : St} (hl : linesL ts (li, co) (ts.length + 1) 0 St.zero = .ok s) : readL l = match wholeL s (li, co) with | .error p => .error (2, p) | .ok V => .ok V := by
  unfold readL; rw [if_neg h]; simp only [hA, hl]; rfl
set_option maxHeartbeats 4000000 in
theorem read_code (l : List UInt8) (w : World) (li co code : Int) (hc : ¬ code = 0) (o : Except (Int × Int × Int) Ven) (ho : o = .error (code, li, co))
    (hA : Calls Tryz.prog 33 #[.string ⟨l.toArray⟩] (w.alloc (.cells #[.slice none 0 0, .int .i64 0, .int .i64 0, .slice none 0 0, .slice none 0 0] 33)) fun e w' => (∃ a n c, e = .returned (.tuple #[.slice a n c, .agg #[.int .i64 li, .int .i64 co], .int .i64 code])) ∧ Below (w.alloc (.cells #[.slice none 0 0, .int .i64 0, .int .i64 0, .slice none 0 0, .slice none 0 0] 33)).heap.size (w.alloc (.cells #[.slice none 0 0, .int .i64 0, .int .i64 0, .slice none 0 0, .slice none 0 0] 33)) w') :
    Calls Tryz.prog 19 #[.string ⟨l.toArray⟩] w fun e w' => TextTo w o e w' := by
  have HO : Hid (o = .error (code, li, co)) := ho
  have hcz : (code == 0) = false := by simpa using hc
  have hvn := Box.fresh w 33 #[.slice none 0 0, .int .i64 0, .int .i64 0, .slice none 0 0, .slice none 0 0]
  have HB0 : Hid (Below w.heap.size w (w.alloc (.cells #[.slice none 0 0, .int .i64 0, .int .i64 0, .slice none 0 0, .slice none 0 0] 33))) := (Below.refl _ w).alloc (Nat.le_refl _) _
  clear ho hc
  go_enter Tryz.func19, Tryz.ntmps19
  go_wp2_with fail
  refine hA.mono ?_
  rintro e w1 ⟨⟨a, n, c, rfl⟩, hb1⟩
  have hv1 := hvn.next hb1
  have v0 := hv1.cell 0 _ rfl
  have v1 := hv1.cell 1 _ rfl
  have v2 := hv1.cell 2 _ rfl
  have v3 := hv1.cell 3 _ rfl
  have v4 := hv1.cell 4 _ rfl
  have f0 := hv1.frozen 0
  have f1 := hv1.frozen 1
  have f2 := hv1.frozen 2
  have f3 := hv1.frozen 3
  have f4 := hv1.frozen 4
  have vl := hv1.lt
  have HB1 : Hid (Below w.heap.size w w1) := HB0.out.trans (hb1.mono HB0.out.size)
  clear hvn hv1 hb1 hA HB0
  go_wp2_with fail
  go_region
  all_goals
    go_wp2_with fail
    refine bodyPost_ret (v := .tuple #[venZ, wrongV code li co]) (by simp [results, Tryz.results19, go_sem, v0, v1, v2, v3, v4, vl]) rfl ?_
    refine TextTo.bad HO.out ?_
    have hh := HB1.out.size
    exact (Below.alloc (Below.setCell (Below.setCell (Below.setCell (Below.setCell (Below.setCell HB1.out (by simp) _) (by simp) _) (by simp) _) (by simp) _) (by simp) _) (by simpa using hh) _).drew
theorem readLine_any {w : World} {base hb : Nat} {az : Option Addr} {cs : Nat} {ak : Option Addr} {ck : Nat} {ap : Option Addr} {cp mb : Nat} {af : Option Addr} {cf : Nat} {s : St} {K : List Int} {fs : List Fact} (h : Hall w base hb az cs ak ck ap cp mb af cf s K fs) (X : List T) {b' : Nat} (va : Option Addr) (vc : Nat) (hrow : Tok.Row w b' (.slice va X.length vc) X) (li co : Int) :
    Calls Tryz.prog 35 #[.pointer (some ⟨hb, 0, none⟩), lineV (.slice va X.length vc) li co] w fun e w' => ReadTo w base hb mb K (lineL X (li, co) s) e w' := by
  cases X with
  | nil => exact readLine_nil h va vc li co
  | cons t r =>
    rcases hrow.toks with ⟨hv, _⟩ | ⟨g, cap, hv, _, _, _, _, _⟩
    · injection hv with _ hv _; simp at hv
    · injection hv with h1 h2 h3
      subst h1 h3
      obtain ⟨tk, tn, tl, tc, tt⟩ := t
      exact readLine_cons h tk tn tl tc tt r g vc (Tok.Row.le hrow (Nat.zero_le _)) li co
/-- What the loop over the lines holds. -/
structure LSt (w W : World) (base hb mb rb sb : Nat) (li co : Int) (v : Value) (ts : List T) (a : Nat) (s : St) (az : Option Addr) (cs : Nat) (ak : Option Addr) (ck : Nat) (ap : Option Addr) (cp : Nat) (af : Option Addr) (cf : Nat) (fs : List Fact) (wr : World) : Prop where
  hall : Hall wr base hb az cs ak ck ap cp mb af cf s [] fs
  far : Far ts (li, co) a s
  own : OwnH base W wr
  row : Tok.Row wr 0 v ts
  rb : Box wr rb 33 #[.slice none 0 0, .int .i64 0, .int .i64 0, .slice none 0 0, .slice none 0 0]
  sb : Box wr sb 27 #[.int .i64 li, .int .i64 co]
theorem OwnH.lowly {base : Nat} {w W W' : World} (h0 : Below w.heap.size w W) (hb : w.heap.size ≤ base) (hW : base ≤ W.heap.size) (h : OwnH base W W') : Below w.heap.size w W' := h0.trans ((h.below hW).mono hb)
set_option maxHeartbeats 4000000 in
theorem read_lines (l : List UInt8) (hl : l.length ≤ 1048576) (w : World) (hR : Tok.Rng w) (ts : List T) (li co : Int) (hA : Tok.allOf l = (ts, li, co, 0)) :
    Calls Tryz.prog 19 #[.string ⟨l.toArray⟩] w fun e w' => TextTo w (readL l) e w' := by
  have hn : ¬ 1048576 < l.length := by omega
  have hlen : ts.length ≤ 1048576 := by
    have := Tok.allP_len l.length l 1 1 (Nat.le_refl _)
    rw [← Tok.allOf_P, hA] at this
    have h2 : ts.length ≤ l.length := this
    omega
  have HRL : Hid (∀ p, linesL ts (li, co) (ts.length + 1) 0 St.zero = .error p → readL l = .error (2, p)) := fun p hp => readL_line hn hA hp
  have HRW : Hid (∀ s, linesL ts (li, co) (ts.length + 1) 0 St.zero = .ok s → readL l = match wholeL s (li, co) with | .error p => .error (2, p) | .ok V => .ok V) := fun s hp => readL_whole hn hA hp
  have hB0 : Below w.heap.size w (w.alloc (.cells #[.slice none 0 0, .int .i64 0, .int .i64 0, .slice none 0 0, .slice none 0 0] 33)) := (Below.refl _ w).alloc (Nat.le_refl _) _
  have hall := Tok.all_any l hl _ (hR.next hB0) ts li co 0 hA
  have hvn := Box.fresh w 33 #[.slice none 0 0, .int .i64 0, .int .i64 0, .slice none 0 0, .slice none 0 0]
  have HB0 : Hid (Below w.heap.size w (w.alloc (.cells #[.slice none 0 0, .int .i64 0, .int .i64 0, .slice none 0 0, .slice none 0 0] 33))) := hB0
  generalize readL l = oo at HRL HRW ⊢
  clear hB0 hA hl hn hR
  have hmm := @run_makeMap Tryz.prog
  go_enter Tryz.func19, Tryz.ntmps19
  go_wp2_with fail
  refine hall.mono ?_
  rintro e w1 ⟨v, rfl, hrow, hb1⟩
  clear hall
  obtain ⟨va, vc, rfl⟩ := row_slice hrow
  have hv1 := hvn.next hb1
  have HB1 : Hid (Below w.heap.size w w1) := HB0.out.trans (hb1.mono HB0.out.size)
  have HV1 : Hid (Box w1 w.heap.size 33 #[.slice none 0 0, .int .i64 0, .int .i64 0, .slice none 0 0, .slice none 0 0]) := hv1
  have HR1 : Hid (Tok.Row w1 0 (.slice va ts.length vc) ts) := Tok.Row.le hrow (Nat.zero_le _)
  clear hvn hv1 hb1 HB0 hrow
  go_wp2_with fail
  have hbs1 := HB1.out.size
  have HBS : Hid (w.heap.size ≤ w1.heap.size) := hbs1
  have hBA : Below w1.heap.size w1 (w1.alloc (.cells #[.int .i64 li, .int .i64 co] 27)) := (Below.refl _ w1).alloc (Nat.le_refl _) _
  have hBH : Below (w1.alloc (.cells #[.int .i64 li, .int .i64 co] 27)).heap.size (w1.alloc (.cells #[.int .i64 li, .int .i64 co] 27)) (((w1.alloc (.cells #[.int .i64 li, .int .i64 co] 27)).alloc (.map #[] 0)).alloc (.cells #[.slice none 0 0, .int .i64 0, .int .i64 0, .slice none 0 0, .slice none 0 0, .map (some (w1.heap.size + 1)), .slice none 0 0, .bool false] 91)) := ((Below.refl _ (w1.alloc (.cells #[.int .i64 li, .int .i64 co] 27))).alloc (Nat.le_refl _) _).alloc (by simp) _
  have hBB := hBA.trans (hBH.mono hBA.size)
  have hH := Hall.fresh (w1.alloc (.cells #[.int .i64 li, .int .i64 co] 27))
  rw [World.size_alloc] at hH
  have HST : Hid (LSt w (((w1.alloc (.cells #[.int .i64 li, .int .i64 co] 27)).alloc (.map #[] 0)).alloc (.cells #[.slice none 0 0, .int .i64 0, .int .i64 0, .slice none 0 0, .slice none 0 0, .map (some (w1.heap.size + 1)), .slice none 0 0, .bool false] 91)) (w1.heap.size + 1) (w1.heap.size + 1 + 1) (w1.heap.size + 1) w.heap.size w1.heap.size li co (.slice va ts.length vc) ts 0 St.zero none 0 none 0 none 0 none 0 [] (((w1.alloc (.cells #[.int .i64 li, .int .i64 co] 27)).alloc (.map #[] 0)).alloc (.cells #[.slice none 0 0, .int .i64 0, .int .i64 0, .slice none 0 0, .slice none 0 0, .map (some (w1.heap.size + 1)), .slice none 0 0, .bool false] 91))) :=
    ⟨hH, Far.zero ts (li, co), OwnH.refl _ _, row_next HR1.out hBB, HV1.out.next hBB, (Box.fresh w1 _ _).next hBH⟩
  have HBW : Hid (Below w.heap.size w (((w1.alloc (.cells #[.int .i64 li, .int .i64 co] 27)).alloc (.map #[] 0)).alloc (.cells #[.slice none 0 0, .int .i64 0, .int .i64 0, .slice none 0 0, .slice none 0 0, .map (some (w1.heap.size + 1)), .slice none 0 0, .bool false] 91))) := HB1.out.trans (hBB.mono HB1.out.size)
  clear hBA hBH hBB hH HB1 HV1 HR1
  have hsz : (((w1.alloc (.cells #[.int .i64 li, .int .i64 co] 27)).alloc (.map #[] 0)).alloc (.cells #[.slice none 0 0, .int .i64 0, .int .i64 0, .slice none 0 0, .slice none 0 0, .map (some (w1.heap.size + 1)), .slice none 0 0, .bool false] 91)).heap.size = w1.heap.size + 1 + 1 + 1 := by simp
  have HSZ : Hid (w1.heap.size + 1 ≤ (((w1.alloc (.cells #[.int .i64 li, .int .i64 co] 27)).alloc (.map #[] 0)).alloc (.cells #[.slice none 0 0, .int .i64 0, .int .i64 0, .slice none 0 0, .slice none 0 0, .map (some (w1.heap.size + 1)), .slice none 0 0, .bool false] 91)).heap.size) := (by rw [hsz]; omega : w1.heap.size + 1 ≤ (((w1.alloc (.cells #[.int .i64 li, .int .i64 co] 27)).alloc (.map #[] 0)).alloc (.cells #[.slice none 0 0, .int .i64 0, .int .i64 0, .slice none 0 0, .slice none 0 0, .map (some (w1.heap.size + 1)), .slice none 0 0, .bool false] 91)).heap.size)
  clear hsz hbs1
  generalize (((w1.alloc (.cells #[.int .i64 li, .int .i64 co] 27)).alloc (.map #[] 0)).alloc (.cells #[.slice none 0 0, .int .i64 0, .int .i64 0, .slice none 0 0, .slice none 0 0, .map (some (w1.heap.size + 1)), .slice none 0 0, .bool false] 91)) = W at HST HBW HSZ ⊢
  generalize w1.heap.size = sb at HST HBS HSZ ⊢
  go_loopw [8, 9, 10, 11] (fun x _ _ _ wr => ∃ (a : Nat) (s : St) (az : Option Addr) (cs : Nat) (ak : Option Addr) (ck : Nat) (ap : Option Addr) (cp : Nat) (af : Option Addr) (cf : Nat) (fs : List Fact), a ≤ ts.length ∧ x = .int .i64 a ∧ Hid (LSt w W (sb + 1) (sb + 1 + 1) (sb + 1) w.heap.size sb li co (.slice va ts.length vc) ts a s az cs ak ck ap cp af cf fs wr)) (fun x _ _ _ _ => ts.length - (intOf x).toNat)
  case atStart => exact ⟨0, St.zero, none, 0, none, 0, none, 0, none, 0, [], Nat.zero_le _, rfl, HST⟩
  case round =>
    obtain ⟨a, s, az, cs, ak, ck, ap, cp, af, cf, fs, ha, rfl, HL⟩ := hrel
    by_cases hlt : a < ts.length
    · have hltz : (a : Int) < (ts.length : Int) := by omega
      rcases HL.out.row.toks with ⟨_, hnil⟩ | ⟨g, cap, hv, _, _, hcap, hcm, hT⟩
      · subst hnil; simp at hlt
      injection hv with hva _ hvc
      subst hva hvc
      have hcall := lineAt_any ts g 0 vc hlen hcap hcm a hlt li co wr hT
      obtain ⟨q, hq, hq1, hq2⟩ := lineNext_gt ts a hlt
      rw [hq] at hcall
      have HQ : Hid (Tok.lineNext ts a = (q : Int)) := hq
      have HLT : Hid (a < ts.length) := hlt
      have s0 := HL.out.sb.cell 0 _ rfl
      have s1 := HL.out.sb.cell 1 _ rfl
      have sl := HL.out.sb.lt
      clear hT hq hcap hcm hmm
      go_wp2_with fail
      refine hcall.mono ?_
      rintro e w2 ⟨v2, rfl, hrow2, hb2⟩
      clear hcall s0 s1 sl
      obtain ⟨xa, xc, rfl⟩ := row_slice hrow2
      have hBA : Below w2.heap.size w2 (w2.alloc (.cells #[.slice xa (Tok.lineTs ts a).length xc, .int .i64 (endL ts a (li, co)).1, .int .i64 (endL ts a (li, co)).2] 93)) := (Below.refl _ w2).alloc (Nat.le_refl _) _
      have hBB := hb2.trans (hBA.mono hb2.size)
      have hread := readLine_any (HL.out.hall.next hBB) (Tok.lineTs ts a) xa xc (row_next hrow2 hBA) (endL ts a (li, co)).1 (endL ts a (li, co)).2
      have HBB : Hid (Below wr.heap.size wr (w2.alloc (.cells #[.slice xa (Tok.lineTs ts a).length xc, .int .i64 (endL ts a (li, co)).1, .int .i64 (endL ts a (li, co)).2] 93))) := hBB
      clear hBA hBB hrow2 hb2
      generalize hol : lineL (Tok.lineTs ts a) ((endL ts a (li, co)).1, (endL ts a (li, co)).2) s = ol at hread
      have HOL : Hid (lineL (Tok.lineTs ts a) (endL ts a (li, co)) s = ol) := hol
      clear hol
      go_wp2_with fail
      refine hread.mono ?_
      intro e w4 hRT
      clear hread
      obtain ⟨hRT, hO⟩ := hRT
      have HO : Hid (OwnH (sb + 1) (w2.alloc (.cells #[.slice xa (Tok.lineTs ts a).length xc, .int .i64 (endL ts a (li, co)).1, .int .i64 (endL ts a (li, co)).2] 93)) w4) := hO
      have HOW : Hid (OwnH (sb + 1) W w4) := (HL.out.own.next HBB.out).trans hO
      have HRB : Hid (Box w4 w.heap.size 33 #[.slice none 0 0, .int .i64 0, .int .i64 0, .slice none 0 0, .slice none 0 0]) := hO.box (HL.out.rb.next HBB.out) (by decide)
      clear hO
      cases ol with
      | error p =>
        have he : e = .returned (wrongV 2 p.1 p.2) := hRT
        subst he
        have HE : Hid (oo = .error (2, p)) := HRL.out p (HL.out.far.bad HLT.out HOL.out)
        have vx := HRB.out
        have v0 := vx.cell 0 _ rfl
        have f0 := vx.frozen 0
        have v1 := vx.cell 1 _ rfl
        have f1 := vx.frozen 1
        have v2 := vx.cell 2 _ rfl
        have f2 := vx.frozen 2
        have v3 := vx.cell 3 _ rfl
        have f3 := vx.frozen 3
        have v4 := vx.cell 4 _ rfl
        have f4 := vx.frozen 4
        have vl := vx.lt
        clear vx
        clear hRT
        go_wp2_with fail
        refine bodyPost_ret (v := .tuple #[venZ, wrongV 2 p.1 p.2]) (by simp [results, Tryz.results19, go_sem, v0, v1, v2, v3, v4]) rfl ?_
        have hbw := HOW.out.lowly HBW.out (by have := HBS.out; omega) HSZ.out
        exact TextTo.bad HE.out (Below.setCell (Below.setCell (Below.setCell (Below.setCell (Below.setCell hbw (by simp) _) (by simp) _) (by simp) _) (by simp) _) (by simp) _)
      | ok s' =>
        obtain ⟨rfl, az2, cs2, ak2, ck2, ap2, cp2, af2, cf2, fs2, hH2⟩ := hRT
        have HL2 : Hid (LSt w W (sb + 1) (sb + 1 + 1) (sb + 1) w.heap.size sb li co (.slice (some ⟨g, 0, none⟩) ts.length vc) ts q s' az2 cs2 ak2 ck2 ap2 cp2 af2 cf2 fs2 w4) :=
          ⟨hH2, HL.out.far.step HLT.out HOL.out HQ.out, HOW.out, HO.out.row (row_next HL.out.row HBB.out) (by decide), HRB.out, HO.out.box (HL.out.sb.next HBB.out) (by decide)⟩
        clear hH2
        go_wp2_with fail
        go_roundw
        case rel => exact ⟨q, s', az2, cs2, ak2, ck2, ap2, cp2, af2, cf2, fs2, hq2, rfl, HL2⟩
        case measure => simp [intOf]; omega
    · have hltz : ¬ (a : Int) < (ts.length : Int) := by omega
      have hlin := HL.out.far.done hlt
      have HRO : Hid (oo = match wholeL s (li, co) with | .error p => .error (2, p) | .ok V => .ok V) := HRW.out s hlin
      have hwh := whole_any HL.out.hall li co
      have s0 := HL.out.sb.cell 0 _ rfl
      have s1 := HL.out.sb.cell 1 _ rfl
      have sl := HL.out.sb.lt
      generalize wholeL s (li, co) = ow at hwh HRO
      clear hlin hmm
      go_wp2_with fail
      refine hwh.mono ?_
      intro e w2 hWT
      clear hwh s0 s1 sl
      obtain ⟨hWT, hO⟩ := hWT
      have HOW : Hid (OwnH (sb + 1) W w2) := HL.out.own.trans hO
      have HRB : Hid (Box w2 w.heap.size 33 #[.slice none 0 0, .int .i64 0, .int .i64 0, .slice none 0 0, .slice none 0 0]) := hO.box HL.out.rb (by decide)
      clear hO
      cases ow with
      | error p =>
        have he : e = .returned (.tuple #[venZ, wrongV 2 p.1 p.2]) := hWT
        subst he
        have HE : Hid (oo = .error (2, p)) := HRO.out
        have vx := HRB.out
        have v0 := vx.cell 0 _ rfl
        have f0 := vx.frozen 0
        have v1 := vx.cell 1 _ rfl
        have f1 := vx.frozen 1
        have v2 := vx.cell 2 _ rfl
        have f2 := vx.frozen 2
        have v3 := vx.cell 3 _ rfl
        have f3 := vx.frozen 3
        have v4 := vx.cell 4 _ rfl
        have f4 := vx.frozen 4
        have vl := vx.lt
        clear vx
        clear hWT
        go_wp2_with fail
        refine bodyPost_ret (v := .tuple #[venZ, wrongV 2 p.1 p.2]) (by simp [results, Tryz.results19, go_sem, v0, v1, v2, v3, v4]) rfl ?_
        have hbw := HOW.out.lowly HBW.out (by have := HBS.out; omega) HSZ.out
        exact TextTo.bad HE.out (Below.setCell (Below.setCell (Below.setCell (Below.setCell (Below.setCell hbw (by simp) _) (by simp) _) (by simp) _) (by simp) _) (by simp) _)
      | ok V =>
        obtain ⟨r, hN, hR⟩ := hWT
        have HE : Hid (oo = .ok V) := HRO.out
        have HN : Hid (NormTo V r) := hN
        have vx := HRB.out
        have v0 := vx.cell 0 _ rfl
        have f0 := vx.frozen 0
        have v1 := vx.cell 1 _ rfl
        have f1 := vx.frozen 1
        have v2 := vx.cell 2 _ rfl
        have f2 := vx.frozen 2
        have v3 := vx.cell 3 _ rfl
        have f3 := vx.frozen 3
        have v4 := vx.cell 4 _ rfl
        have f4 := vx.frozen 4
        have vl := vx.lt
        clear vx
        clear hN
        cases r with
        | none =>
          have he : e = .returned (.tuple #[venZ, wrongV 2 li co]) := hR
          subst he
          clear hR
          go_wp2_with fail
          refine bodyPost_ret (v := .tuple #[venZ, wrongV 2 li co]) (by simp [results, Tryz.results19, go_sem, v0, v1, v2, v3, v4]) rfl ?_
          have hbw := HOW.out.lowly HBW.out (by have := HBS.out; omega) HSZ.out
          rw [HE.out]
          exact ⟨⟨li, co, none, HN.out, rfl⟩, (Below.setCell (Below.setCell (Below.setCell (Below.setCell (Below.setCell hbw (by simp) _) (by simp) _) (by simp) _) (by simp) _) (by simp) _)⟩
        | some U =>
          obtain ⟨p1, m1, d1, p2, m2, d2, p3, m3, d3, rfl, hU⟩ := hR
          have HU : Hid (VenOwn w2 p1 m1 d1 p2 m2 d2 p3 m3 d3 U) := hU
          clear hU
          go_wp2_with fail
          refine bodyPost_ret (v := .tuple #[venV p1 m1 d1 U.gap U.radius p2 m2 d2 p3 m3 d3, .nilIface]) (by simp [results, Tryz.results19, go_sem, v0, v1, v2, v3, v4]) rfl ?_
          have hbw := HOW.out.lowly HBW.out (by have := HBS.out; omega) HSZ.out
          rw [HE.out]
          have x0 := HRB.out
          have u0 := HU.out
          have x1 := x0.set 0 (.slice p1 m1 d1)
          have u1 := u0.set x0 (by decide) (by decide) (by decide) 0 (.slice p1 m1 d1)
          have x2 := x1.set 1 (.int .i64 U.gap)
          have u2 := u1.set x1 (by decide) (by decide) (by decide) 1 (.int .i64 U.gap)
          have x3 := x2.set 2 (.int .i64 U.radius)
          have u3 := u2.set x2 (by decide) (by decide) (by decide) 2 (.int .i64 U.radius)
          have x4 := x3.set 3 (.slice p2 m2 d2)
          have u4 := u3.set x3 (by decide) (by decide) (by decide) 3 (.slice p2 m2 d2)
          have u5 := u4.set x4 (by decide) (by decide) (by decide) 4 (.slice p3 m3 d3)
          exact ⟨⟨li, co, some U, HN.out, p1, m1, d1, p2, m2, d2, p3, m3, d3, rfl, u5⟩, (Below.setCell (Below.setCell (Below.setCell (Below.setCell (Below.setCell hbw (by simp) _) (by simp) _) (by simp) _) (by simp) _) (by simp) _)⟩
theorem read_any (l : List UInt8) (w : World) (hR : Tok.Rng w) :
    Calls Tryz.prog 19 #[.string ⟨l.toArray⟩] w fun e w' => TextTo w (readL l) e w' := by
  have hB0 : Below w.heap.size w (w.alloc (.cells #[.slice none 0 0, .int .i64 0, .int .i64 0, .slice none 0 0, .slice none 0 0] 33)) := (Below.refl _ w).alloc (Nat.le_refl _) _
  by_cases hl : 1048576 < l.length
  · exact read_code l w 0 0 3 (by decide) _ (readL_large hl) ((all_large l hl _).mono fun e w' ⟨he, hb⟩ => ⟨⟨none, 0, 0, he⟩, hb⟩)
  · obtain ⟨⟨ts, li, co, code⟩, hA⟩ : ∃ r, Tok.allOf l = r := ⟨_, rfl⟩
    by_cases hc : code = 0
    · subst hc
      exact read_lines l (by omega) w hR ts li co hA
    · refine read_code l w li co code hc _ (readL_bad hl hA hc) ((Tok.all_any l (by omega) _ (hR.next hB0) ts li co code hA).mono ?_)
      rintro e w' ⟨v, rfl, hrow, hb⟩
      obtain ⟨a, c, rfl⟩ := row_slice hrow
      exact ⟨⟨_, _, _, rfl⟩, hb⟩
end Go.Proofs.YtdffleaokccgmaaGreatDoor.Par

namespace Go.Proofs.YtdffleaokccgmaaGreatDoor.Par
set_option linter.unusedVariables false
set_option maxRecDepth 100000
open Go.Proofs.YtdffleaokccgmaaGreatDoor.Ven
open Go.Proofs.YtdffleaokccgmaaGreatDoor.Prs (atI wordK kindL letsK)

structure GoodSt (s : St) : Prop where
  seat : ∀ x ∈ s.seats, seatB x = true
  apart : s.seats.Pairwise keyNe
  ls : s.seats.length ≤ 4096
  gap : s.gap = 0 ∨ lengthB s.gap = true
  radius : distB s.radius = true
  pole : ∀ p ∈ s.poles, poleB p = true
  lp : s.poles.length ≤ 200
  lk : s.kills.length ≤ 200
theorem GoodSt.zero : GoodSt St.zero := ⟨by simp [St.zero], by simp [St.zero], by simp [St.zero], .inl rfl, by decide, by simp [St.zero], by simp [St.zero], by simp [St.zero]⟩
theorem atI_neg {S : List Seat} {r x : Int} (h : atI S r x < 0) : ∀ a ∈ S, ¬ (a.row = r ∧ a.x = x) := by
  intro a ha hc
  unfold atI at h
  cases hf : S.findIdx? (fun s => s.row == r && s.x == x) with
  | some i => rw [hf] at h; simp at h; omega
  | none =>
    rw [List.findIdx?_eq_none_iff] at hf
    have := hf a ha
    simp [hc.1, hc.2] at this
theorem GoodSt.add {s s' : St} {k : Nat} {t : T} {rest : List T} (h : GoodSt s) (h1 : 1 ≤ k) (h7 : k ≤ 7) (hn : rest.length = numK k) (hr : rangeL k 0 rest = none) (ha : addL k t rest s = some s') : GoodSt s' := by
  have hl : ∀ j, j < rest.length → letsK k j (nOf rest j) = true := fun j hj => by
    have := range_each k rest 0 hr j hj
    rw [Nat.zero_add] at this
    unfold nOf; rw [getElem!_pos rest j hj]; exact this
  have hk : k = 1 ∨ k = 2 ∨ k = 3 ∨ k = 4 ∨ k = 5 ∨ k = 6 ∨ k = 7 := by omega
  have seatCase : ∀ kd : Int, kindB kd = true → rest.length = 3 → rowB (nOf rest 0) = true → coordB (nOf rest 1) = true → coordB (nOf rest 2) = true → atI s.seats (nOf rest 0) (nOf rest 1) < 0 ∧ s.seats.length < 4096 → GoodSt { s with seats := s.seats ++ [⟨nOf rest 0, nOf rest 1, nOf rest 2, kd⟩] } := by
    intro kd hkd h3 hb0 hb1 hb2 hc
    refine { h with seat := fun x hx => ?_, apart := ?_, ls := by simp; omega }
    · rcases List.mem_append.1 hx with hx | hx
      · exact h.seat x hx
      · rw [List.mem_singleton] at hx; subst hx
        unfold seatB standsB
        simp [hb0, hb1, hb2, hkd]
    · rw [List.pairwise_append]
      refine ⟨h.apart, by simp, fun a ha b hb => ?_⟩
      rw [List.mem_singleton] at hb; subst hb
      exact atI_neg hc.1 a ha
  rcases hk with rfl | rfl | rfl | rfl | rfl | rfl | rfl
  · have l0 := hl 0 (by rw [hn]; decide)
    have l1 := hl 1 (by rw [hn]; decide)
    have l2 := hl 2 (by rw [hn]; decide)
    unfold addL seatOf at ha
    simp only [show ¬ ((1 : Nat) = 5) by decide, show ¬ ((1 : Nat) = 6) by decide, show ¬ ((1 : Nat) = 7) by decide, show ¬ ((1 : Nat) = 4) by decide, if_false] at ha
    split at ha
    · rename_i hc; injection ha with ha; subst ha; exact seatCase _ (by decide) hn l0 l1 l2 hc
    · cases ha
  · have l0 := hl 0 (by rw [hn]; decide)
    have l1 := hl 1 (by rw [hn]; decide)
    have l2 := hl 2 (by rw [hn]; decide)
    unfold addL seatOf at ha
    simp only [show ¬ ((2 : Nat) = 5) by decide, show ¬ ((2 : Nat) = 6) by decide, show ¬ ((2 : Nat) = 7) by decide, show ¬ ((2 : Nat) = 4) by decide, if_false] at ha
    split at ha
    · rename_i hc; injection ha with ha; subst ha; exact seatCase _ (by decide) hn l0 l1 l2 hc
    · cases ha
  · have l0 := hl 0 (by rw [hn]; decide)
    have l1 := hl 1 (by rw [hn]; decide)
    have l2 := hl 2 (by rw [hn]; decide)
    unfold addL seatOf at ha
    simp only [show ¬ ((3 : Nat) = 5) by decide, show ¬ ((3 : Nat) = 6) by decide, show ¬ ((3 : Nat) = 7) by decide, show ¬ ((3 : Nat) = 4) by decide, if_false] at ha
    split at ha
    · rename_i hc; injection ha with ha; subst ha; exact seatCase _ (by decide) hn l0 l1 l2 hc
    · cases ha
  · have l0 := hl 0 (by rw [hn]; decide)
    have l1 := hl 1 (by rw [hn]; decide)
    have l2 := hl 2 (by rw [hn]; decide)
    unfold addL at ha
    simp only [show ¬ ((4 : Nat) = 5) by decide, show ¬ ((4 : Nat) = 6) by decide, show ¬ ((4 : Nat) = 7) by decide, if_false, if_true] at ha
    split at ha
    · rename_i hc; injection ha with ha; subst ha
      refine { h with pole := fun p hp => ?_, lp := by simp; omega }
      rcases List.mem_append.1 hp with hp | hp
      · exact h.pole p hp
      · rw [List.mem_singleton] at hp; subst hp
        have l0' : coordB (nOf rest 0) = true := l0
        have l1' : coordB (nOf rest 1) = true := l1
        have l2' : lengthB (nOf rest 2) = true := l2
        unfold poleB standsB
        simp [l0', l1', l2']
    · cases ha
  · have l0 := hl 0 (by rw [hn]; decide)
    unfold addL at ha
    simp only [if_true] at ha
    split at ha
    · injection ha with ha; subst ha; exact { h with gap := .inr l0 }
    · cases ha
  · have l0 := hl 0 (by rw [hn]; decide)
    unfold addL at ha
    simp only [show ¬ ((6 : Nat) = 5) by decide, if_false, if_true] at ha
    split at ha
    · injection ha with ha; subst ha; exact { h with radius := l0 }
    · cases ha
  · unfold addL at ha
    simp only [show ¬ ((7 : Nat) = 5) by decide, show ¬ ((7 : Nat) = 6) by decide, if_false, if_true] at ha
    split at ha
    · rename_i hc; injection ha with ha; subst ha; exact { h with lk := by simp; omega }
    · cases ha
theorem GoodSt.line {s s' : St} {ts : List T} {e : Int × Int} (h : GoodSt s) (hl : lineL ts e s = .ok s') : GoodSt s' := by
  cases ts with
  | nil => injection hl with hl; subst hl; exact h
  | cons t rest =>
    obtain ⟨tk, tn, tl, tc, tt⟩ := t
    cases ht : tellL (tk, tn, tl, tc, tt) rest e with
    | some p => rw [lineL_bad ht] at hl; cases hl
    | none =>
      obtain ⟨k, k1, k7, rfl, hkk, hkn, hkr⟩ := tell_none ht
      cases ha : addL (kindL (wordK k)) (tk, tn, tl, tc, wordK k) rest s with
      | none => rw [lineL_no ht ha] at hl; cases hl
      | some s2 =>
        rw [lineL_add ht ha] at hl
        injection hl with hl; subst hl
        rw [hkk] at ha
        exact h.add k1 k7 hkn hkr ha
theorem GoodSt.lines {ts : List T} {e : Int × Int} : ∀ (f a : Nat) (s s' : St), GoodSt s → linesL ts e f a s = .ok s' → GoodSt s'
  | 0, _, s, s', h, hl => by injection hl with hl; subst hl; exact h
  | f + 1, a, s, s', h, hl => by
    rw [linesL_succ] at hl
    split at hl
    · cases h1 : lineL (Tok.lineTs ts a) (endL ts a e) s with
      | error p => rw [h1] at hl; cases hl
      | ok s2 => rw [h1] at hl; exact GoodSt.lines f _ s2 s' (h.line h1) hl
    · injection hl with hl; subst hl; exact h
theorem killsL_good {S : List Seat} : ∀ (ks : List Kill) (acc K : List Int), (∀ k ∈ acc, isSeatB k S.length = true) → killsL S ks acc = .ok K → (∀ k ∈ K, isSeatB k S.length = true) ∧ K.length = acc.length + ks.length
  | [], acc, K, h, hk => by injection hk with hk; subst hk; exact ⟨h, rfl⟩
  | f :: r, acc, K, h, hk => by
    unfold killsL at hk
    split at hk
    · cases hk
    · rename_i h0
      split at hk
      · cases hk
      · have := killsL_good r (acc ++ [atI S f.row f.x]) K (fun k hkm => by
          rcases List.mem_append.1 hkm with hkm | hkm
          · exact h k hkm
          · rw [List.mem_singleton] at hkm; subst hkm
            have := atI_lt S f.row f.x
            unfold isSeatB; simp; omega) hk
        refine ⟨this.1, ?_⟩
        rw [this.2]; simp; omega
structure GoodV (V : Ven) : Prop where
  seat : ∀ x ∈ V.seats, seatB x = true
  apart : V.seats.Pairwise keyNe
  one : 1 ≤ V.seats.length
  ls : V.seats.length ≤ 4096
  gap : lengthB V.gap = true
  radius : distB V.radius = true
  pole : ∀ p ∈ V.poles, poleB p = true
  lp : V.poles.length ≤ 200
  kill : ∀ k ∈ V.kills, isSeatB k V.seats.length = true
  lk : V.kills.length ≤ 200
theorem readL_good {l : List UInt8} {V : Ven} (h : readL l = .ok V) : GoodV V := by
  unfold readL at h
  split at h
  · cases h
  · rcases hA : Tok.allOf l with ⟨ts, li, co, code⟩
    simp only [hA] at h
    split at h
    · cases hL : linesL ts (li, co) (ts.length + 1) 0 St.zero with
      | error p => rw [hL] at h; cases h
      | ok s =>
        rw [hL] at h
        have hs := GoodSt.lines _ _ _ _ GoodSt.zero hL
        cases hw : wholeL s (li, co) with
        | error p => simp only [hw] at h; cases h
        | ok V' =>
          simp only [hw] at h
          injection h with h; subst h
          unfold wholeL at hw
          split at hw
          · cases hw
          · rename_i hne
            cases hk : killsL s.seats s.kills [] with
            | error p => rw [hk] at hw; cases hw
            | ok K =>
              rw [hk] at hw
              injection hw with hw; subst hw
              obtain ⟨k1, k2⟩ := killsL_good s.kills [] K (by simp) hk
              have hsl : ¬ s.seats = [] := fun hc => hne (.inl hc)
              have hg : ¬ s.gap = 0 := fun hc => hne (.inr hc)
              refine ⟨hs.seat, hs.apart, ?_, hs.ls, hs.gap.resolve_left hg, hs.radius, hs.pole, hs.lp, k1, ?_⟩
              · show 1 ≤ s.seats.length
                have : ¬ s.seats.length = 0 := fun hc => hsl (List.length_eq_zero_iff.1 hc)
                omega
              · show K.length ≤ 200
                rw [k2]; have := hs.lk; simp; omega
    · cases h
theorem posOf_few {V : Ven} {ord : List Nat} (ho : IsOrder V.seats ord) : (posOf V.kills ord V.seats.length).length ≤ V.kills.length := by
  have hn : ord.Nodup := ho.perm.nodup_iff.2 List.nodup_range
  have hlen := ho.length
  have hnd : ((List.range V.seats.length).filter (fun j => markB V.kills ord[j]!)).Nodup := List.nodup_range.filter _
  have hsub : ((List.range V.seats.length).filter (fun j => markB V.kills ord[j]!)).map (fun j => ((ord[j]! : Nat) : Int)) ⊆ V.kills := by
    intro x hx
    obtain ⟨j, hj, rfl⟩ := List.mem_map.1 hx
    rw [List.mem_filter] at hj
    unfold markB at hj
    exact of_decide_eq_true hj.2
  have hinj : (((List.range V.seats.length).filter (fun j => markB V.kills ord[j]!)).map (fun j => ((ord[j]! : Nat) : Int))).Nodup := by
    unfold List.Nodup
    rw [List.pairwise_map]
    refine List.Pairwise.imp_of_mem ?_ hnd
    intro a b ha hb hab hc
    rw [List.mem_filter, List.mem_range] at ha hb
    rw [getElem!_pos ord a (by omega), getElem!_pos ord b (by omega)] at hc
    exact hab ((List.getElem_inj hn).1 (by omega))
  have := hinj.length_le_of_subset hsub
  unfold posOf
  simpa using this
/-- A good venue is sorted, and then it may be. -/
theorem norm_good {V : Ven} (hV : GoodV V) {r : Option Ven} (h : NormTo V r) : ∃ ord, IsOrder V.seats ord ∧ r = some (normU V ord) ∧ mayB (normU V ord) = true := by
  rcases h with ⟨_, h⟩ | ⟨_, _, _, ord, ho, hr⟩
  · exfalso
    rcases h with h | h | h
    · have := hV.ls; omega
    · have := hV.lp; omega
    · rw [List.all_eq_true.2 hV.kill] at h; cases h
  · have hm : mayB (normU V ord) = true := by
      have hp := pick_perm ho
      have hpl : (pick V.seats ord).length = V.seats.length := hp.length_eq
      unfold mayB
      simp only [Bool.and_eq_true]
      refine ⟨⟨⟨⟨?_, hV.gap⟩, hV.radius⟩, ?_⟩, ?_⟩
      · refine (seatsB_iff _).2 ⟨?_, ?_, fun s hs => hV.seat s (hp.mem_iff.1 hs), pick_rising ho hV.apart⟩
        · show 1 ≤ (pick V.seats ord).length; rw [hpl]; exact hV.one
        · show (pick V.seats ord).length ≤ 4096; rw [hpl]; exact hV.ls
      · refine (killsB_iff _ _).2 ⟨Nat.le_trans (posOf_few ho) hV.lk, fun k hk => ?_, posOf_rising _ _ _⟩
        obtain ⟨j, hj, _, rfl⟩ := (mem_posOf _ _ _ _).1 hk
        unfold isSeatB
        show (decide (0 ≤ (j : Int)) && decide ((j : Int) < ((pick V.seats ord).length : Int))) = true
        rw [hpl]; simp; omega
      · exact (polesB_iff _).2 ⟨hV.lp, hV.pole⟩
    exact ⟨ord, ho, by rw [hr, if_pos hm], hm⟩
end Go.Proofs.YtdffleaokccgmaaGreatDoor.Par

namespace Go.Proofs.YtdffleaokccgmaaGreatDoor.Par
set_option linter.unusedVariables false
set_option maxRecDepth 100000
open Go.RowKit Go.Extern.Stop Go.Stop Go.Extern

theorem as_nil (t : Value) (w : World) :
    Calls Tryz.prog 37 #[.nilIface, t] w fun e w' => e = .returned (.bool false) ∧ w' = w := by
  go_enter Tryz.func37, Tryz.ntmps37
  go_wp2
  go_ret
  exact ⟨rfl, rfl⟩

theorem w_valueOf85 (t : Addr) (w : World) : (ReflectliteValue.unpack (.iface 99 (.pointer (some t)))).run Tryz.prog w
    = .ok (.agg #[.pointer (some ⟨6, 99, none⟩), .pointer (some ⟨w.heap.size, 0, none⟩), .int .u64 150]) (w.alloc (.cells #[.pointer (some t)] 99)) := by kernel_rfl
theorem w_type85 (a : Addr) (w : World) : (ReflectliteValue.methodAny (ReflectliteValue.valueError "reflectlite.Value.Type" 0) (fun t _ _ _ => ReflectliteType.toType t) #[.agg #[.pointer (some ⟨6, 99, none⟩), .pointer (some a), .int .u64 150]]).run Tryz.prog w
    = .ok (.iface 164 (.agg #[.pointer (some ⟨6, 99, none⟩)])) w := by kernel_rfl
theorem w_methodKind (h : Value) (w : World) : (Go.method 369 164 (.agg #[h]) "Kind").run Tryz.prog w = .ok (178, h) w := by kernel_rfl
theorem w_kind85 (w : World) : ((ReflectliteType.abiMethod fun t => (fun a : Nat => Value.int IntKind.u8 (a : Int)) <$> Rtype.kind t) #[.pointer (some ⟨6, 99, none⟩)]).run Tryz.prog w = .ok (.int .u8 22) w := by kernel_rfl
theorem w_kind41 (w : World) : ((ReflectliteType.abiMethod fun t => (fun a : Nat => Value.int IntKind.u8 (a : Int)) <$> Rtype.kind t) #[.pointer (some ⟨6, 87, none⟩)]).run Tryz.prog w = .ok (.int .u8 25) w := by kernel_rfl

theorem rlm (z : Sem Value) (f : TypeId → Addr → Nat → Nat → Sem Value) (v : Value) :
    ReflectliteValue.method z f #[v] = (do match ← ReflectliteValue.parts v with | none => z | some (t, a, fl) => f t a fl (fl % 32)) := rfl
theorem w_parts85 (a : Addr) (w : World) : (ReflectliteValue.parts (.agg #[.pointer (some ⟨6, 99, none⟩), .pointer (some a), .int .u64 150])).run Tryz.prog w = .ok (some (99, a, 150)) w := by kernel_rfl
theorem w_isNil85 (a p : Addr) (W : World) (ha : W.cell? a = some (.pointer (some p))) :
    (ReflectliteValue.method (ReflectliteValue.valueError "reflectlite.Value.IsNil" 0) ReflectliteValue.isNil #[.agg #[.pointer (some ⟨6, 99, none⟩), .pointer (some a), .int .u64 150]]).run Tryz.prog W = .ok (.bool false) W := by
  rw [rlm]
  simp only [Sem.run_bind, w_parts85, Result.andThen]
  simp [ReflectliteValue.isNil, loadVar, isAgg, underlying, Tryz.underlying99, ha, Result.andThen]

theorem w_methodElem (h : Value) (w : World) : (Go.method 369 164 (.agg #[h]) "Elem").run Tryz.prog w = .ok (191, .agg #[h]) w := by kernel_rfl
theorem w_methodImplements (h : Value) (w : World) : (Go.method 369 164 (.agg #[h]) "Implements").run Tryz.prog w = .ok (192, .agg #[h]) w := by kernel_rfl
theorem w_methodAssignableTo (h : Value) (w : World) : (Go.method 369 164 (.agg #[h]) "AssignableTo").run Tryz.prog w = .ok (189, .agg #[h]) w := by kernel_rfl
theorem w_elem85 (w : World) : (ReflectliteType.method ReflectliteType.elem #[.agg #[.pointer (some ⟨6, 99, none⟩)]]).run Tryz.prog w = .ok (.iface 164 (.agg #[.pointer (some ⟨6, 87, none⟩)])) w := by kernel_rfl
theorem w_implements41 (w : World) : (ReflectliteType.relation "Implements" ReflectliteType.implements_ #[.agg #[.pointer (some ⟨6, 87, none⟩)], .iface 164 (.agg #[.pointer (some ⟨6, 35, none⟩)])]).run Tryz.prog w = .ok (.bool true) w := by kernel_rfl
theorem w_typeOf41 (v : Value) (w : World) : (ReflectliteType.typeOf #[.iface 87 v]).run Tryz.prog w = .ok (.iface 164 (.agg #[.pointer (some ⟨6, 87, none⟩)])) w := by kernel_rfl
theorem w_assignable41 (w : World) : (ReflectliteType.relation "AssignableTo" ReflectliteType.assignableTo #[.agg #[.pointer (some ⟨6, 87, none⟩)], .iface 164 (.agg #[.pointer (some ⟨6, 87, none⟩)])]).run Tryz.prog w = .ok (.bool true) w := by kernel_rfl
theorem w_valueOf41 (c li co : Int) (w : World) : (ReflectliteValue.unpack (wrongV c li co)).run Tryz.prog w
    = .ok (.agg #[.pointer (some ⟨6, 87, none⟩), .pointer (some ⟨w.heap.size, 0, none⟩), .int .u64 153]) (w.alloc (.cells #[.int .i64 c, .int .i64 li, .int .i64 co] 87)) := by kernel_rfl

theorem w_elemOf85 (w : World) : (Rtype.elem? 99).run Tryz.prog w = .ok (some 87) w := by kernel_rfl
theorem w_mk41 (p : Addr) (w : World) : (ReflectliteValue.mk 87 p ReflectliteValue.flagAddr).run Tryz.prog w = .ok (.agg #[.pointer (some ⟨6, 87, none⟩), .pointer (some p), .int .u64 409]) w := by kernel_rfl
theorem w_elemV85 (a p : Addr) (W : World) (ha : W.cell? a = some (.pointer (some p))) :
    (ReflectliteValue.method (ReflectliteValue.valueError "reflectlite.Value.Elem" 0) ReflectliteValue.elem #[.agg #[.pointer (some ⟨6, 99, none⟩), .pointer (some a), .int .u64 150]]).run Tryz.prog W
      = .ok (.agg #[.pointer (some ⟨6, 87, none⟩), .pointer (some p), .int .u64 409]) W := by
  rw [rlm]
  simp only [Sem.run_bind, w_parts85, Result.andThen]
  simp [ReflectliteValue.elem, loadVar, isAgg, underlying, Tryz.underlying99, ha, Result.andThen, w_elemOf85, w_mk41]
theorem rls (v x : Value) : ReflectliteValue.set #[v, x] = (do
    let (some (dst, a, fl), some (src, b, _)) := (← ReflectliteValue.parts v, ← ReflectliteValue.parts x)
      | unsupported (.noEntry "extern/(internal/reflectlite.Value).Set.zeroValue")
    if fl / ReflectliteValue.flagAddr % 2 == 0 then unsupported (.noEntry "extern/(internal/reflectlite.Value).Set.unaddressable")
    let val ← loadVar src b
    if ← Rtype.directlyAssignable dst src then storeVar dst a val
    else if ← Rtype.implements dst src then
      if (← Rtype.kind src) == 20 then
        match val with
        | .nilIface => unsupported (.noEntry "extern/reflectlite: a nil value of one interface type handed on as a value of another")
        | _ => storeVar dst a val
      else storeVar dst a (.iface src val)
    else panicString ("reflectlite.Set: value of type " ++ (← Rtype.spelt src) ++ " is not assignable to type " ++ (← Rtype.spelt dst))
    pure (.tuple #[])) := rfl
theorem w_parts41a (a : Addr) (w : World) : (ReflectliteValue.parts (.agg #[.pointer (some ⟨6, 87, none⟩), .pointer (some a), .int .u64 409])).run Tryz.prog w = .ok (some (87, a, 409)) w := by kernel_rfl
theorem w_parts41 (a : Addr) (w : World) : (ReflectliteValue.parts (.agg #[.pointer (some ⟨6, 87, none⟩), .pointer (some a), .int .u64 153])).run Tryz.prog w = .ok (some (87, a, 153)) w := by kernel_rfl
theorem w_direct41 (w : World) : (Rtype.directlyAssignable 87 87).run Tryz.prog w = .ok true w := by kernel_rfl
theorem w_agg41 (w : World) : (isAgg 87).run Tryz.prog w = .ok true w := by kernel_rfl
theorem w_size41 (w : World) : (sizeOf 87).run Tryz.prog w = .ok 3 w := by kernel_rfl
theorem w_set41 (tb b : Nat) (o0 o1 o2 : Value) (c li co : Int) (W : World) (h0 : W.cell? ⟨b, 0, none⟩ = some (.int .i64 c)) (h1 : W.cell? ⟨b, 1, none⟩ = some (.int .i64 li)) (h2 : W.cell? ⟨b, 2, none⟩ = some (.int .i64 co))
    (hB : Ven.Box W tb 87 #[o0, o1, o2]) :
    (ReflectliteValue.set #[.agg #[.pointer (some ⟨6, 87, none⟩), .pointer (some ⟨tb, 0, none⟩), .int .u64 409], .agg #[.pointer (some ⟨6, 87, none⟩), .pointer (some ⟨b, 0, none⟩), .int .u64 153]]).run Tryz.prog W
      = .ok (.tuple #[]) (((W.setCell ⟨tb, 0, none⟩ (.int .i64 c)).setCell ⟨tb, 1, none⟩ (.int .i64 li)).setCell ⟨tb, 2, none⟩ (.int .i64 co)) := by
  have c0 := hB.cell 0 _ rfl
  have c1 := hB.cell 1 _ rfl
  have c2 := hB.cell 2 _ rfl
  have f0 := hB.frozen 0
  have f1 := hB.frozen 1
  have f2 := hB.frozen 2
  have c0' : W.cell? ⟨tb, 0, none⟩ = some o0 := c0
  have b1 := hB.set 0 (.int .i64 c)
  have b2 := b1.set 1 (.int .i64 li)
  have d1 : (W.setCell ⟨tb, 0, none⟩ (.int .i64 c)).cell? ⟨tb, 1, none⟩ = some o1 := b1.cell 1 _ rfl
  have d2 : ((W.setCell ⟨tb, 0, none⟩ (.int .i64 c)).setCell ⟨tb, 1, none⟩ (.int .i64 li)).cell? ⟨tb, 2, none⟩ = some o2 := b2.cell 2 _ rfl
  have g1 := b1.frozen 1
  have g2 := b2.frozen 2
  have ag := w_agg41
  have sz := w_size41
  have di := w_direct41
  rw [rls]
  simp only [Sem.run_bind, w_parts41a, w_parts41, Result.andThen]
  simp [ReflectliteValue.flagAddr, loadVar, ag, sz, h0, h1, h2, Result.andThen, di, storeVar, go_sem]
  simp only [c0', f0]
  simp only [Bool.false_eq_true, if_false, d1, g1, d2, g2]

set_option maxHeartbeats 4000000 in
theorem as_wrong (c li co : Int) (tb : Nat) (o0 o1 o2 : Value) (w : World) (hg : w.cell? ⟨0, 0, none⟩ = some (.iface 164 (.agg #[.pointer (some ⟨6, 35, none⟩)]))) (hT : Ven.Box w tb 87 #[o0, o1, o2]) :
    Calls Tryz.prog 37 #[wrongV c li co, .iface 99 (.pointer (some ⟨tb, 0, none⟩))] w fun ev w' => ev = .returned (.bool true) ∧ w' = ((((((w.alloc (.cells #[.pointer (some ⟨tb, 0, none⟩)] 99)).alloc (.cells #[.pointer (some ⟨6, 99, none⟩), .pointer (some ⟨w.heap.size, 0, none⟩), .int .u64 150] 127)).alloc (.cells #[.pointer (some ⟨6, 99, none⟩), .pointer (some ⟨w.heap.size, 0, none⟩), .int .u64 150] 127)).alloc (.cells #[.int .i64 c, .int .i64 li, .int .i64 co] 87)).setCell ⟨tb, 0, none⟩ (.int .i64 c)).setCell ⟨tb, 1, none⟩ (.int .i64 li)).setCell ⟨tb, 2, none⟩ (.int .i64 co) := by
  have h6 := @run_callFunc_extern Tryz.prog 63 _ (fun args => ReflectliteValue.unpack (args.getD 0 (.tuple #[]))) Tryz.func63 (by kernel_rfl) (by kernel_rfl) (by kernel_rfl) (by kernel_rfl)
  have h7 := @run_callFunc_extern Tryz.prog 64 _ (ReflectliteValue.methodAny (ReflectliteValue.valueError "reflectlite.Value.Type" 0) (fun t _ _ _ => ReflectliteType.toType t)) Tryz.func64 (by kernel_rfl) (by kernel_rfl) (by kernel_rfl) (by kernel_rfl)
  have h8 := @run_callFunc_extern Tryz.prog 65 _ (ReflectliteValue.method (ReflectliteValue.valueError "reflectlite.Value.IsNil" 0) ReflectliteValue.isNil) Tryz.func65 (by kernel_rfl) (by kernel_rfl) (by kernel_rfl) (by kernel_rfl)
  have h27 := @run_callFunc_extern Tryz.prog 178 _ (ReflectliteType.abiMethod fun t => do pure (.int .u8 (← Rtype.kind t))) Tryz.func178 (by kernel_rfl) (by kernel_rfl) (by kernel_rfl) (by kernel_rfl)
  have h37 := @run_callFunc_extern Tryz.prog 191 _ (ReflectliteType.method ReflectliteType.elem) Tryz.func191 (by kernel_rfl) (by kernel_rfl) (by kernel_rfl) (by kernel_rfl)
  have h38 := @run_callFunc_extern Tryz.prog 192 _ (ReflectliteType.relation "Implements" ReflectliteType.implements_) Tryz.func192 (by kernel_rfl) (by kernel_rfl) (by kernel_rfl) (by kernel_rfl)
  have h10 := @run_callFunc_extern Tryz.prog 89 _ ReflectliteType.typeOf Tryz.func89 (by kernel_rfl) (by kernel_rfl) (by kernel_rfl) (by kernel_rfl)
  have h35 := @run_callFunc_extern Tryz.prog 189 _ (ReflectliteType.relation "AssignableTo" ReflectliteType.assignableTo) Tryz.func189 (by kernel_rfl) (by kernel_rfl) (by kernel_rfl) (by kernel_rfl)
  have h11 := @run_callFunc_extern Tryz.prog 90 _ (ReflectliteValue.method (ReflectliteValue.valueError "reflectlite.Value.Elem" 0) ReflectliteValue.elem) Tryz.func90 (by kernel_rfl) (by kernel_rfl) (by kernel_rfl) (by kernel_rfl)
  have h12 := @run_callFunc_extern Tryz.prog 91 _ ReflectliteValue.set Tryz.func91 (by kernel_rfl) (by kernel_rfl) (by kernel_rfl) (by kernel_rfl)
  have tO := w_typeOf41
  have mA := w_methodAssignableTo
  have a25 := w_assignable41
  have v25 := w_valueOf41
  have f6 := w_valueOf85
  have f7 := w_type85
  have mK := w_methodKind
  have mE := w_methodElem
  have mI := w_methodImplements
  have k27 := w_kind85
  have k25 := w_kind41
  have e27 := w_elem85
  have i25 := w_implements41
  have n8 := w_isNil85 ⟨w.heap.size, 0, none⟩ ⟨tb, 0, none⟩ ((w.alloc (.cells #[.pointer (some ⟨tb, 0, none⟩)] 99)).alloc (.cells #[.pointer (some ⟨6, 99, none⟩), .pointer (some ⟨w.heap.size, 0, none⟩), .int .u64 150] 127)) (by simp)
  have hlt : 0 < w.heap.size := by
    rcases Nat.eq_zero_or_pos w.heap.size with h0 | h
    · simp [World.cell?, h0] at hg
    · exact h
  have hg2 : ((w.alloc (.cells #[.pointer (some ⟨tb, 0, none⟩)] 99)).alloc (.cells #[.pointer (some ⟨6, 99, none⟩), .pointer (some ⟨w.heap.size, 0, none⟩), .int .u64 150] 127)).cell? ⟨0, 0, none⟩ = some (.iface 164 (.agg #[.pointer (some ⟨6, 35, none⟩)])) := by
    rw [World.cell?_alloc_lt _ _ ⟨0, 0, none⟩ (by simp), World.cell?_alloc_lt _ _ ⟨0, 0, none⟩ hlt]; exact hg
  have htl := hT.lt
  have el := w_elemV85 ⟨w.heap.size, 0, none⟩ ⟨tb, 0, none⟩ (((w.alloc (.cells #[.pointer (some ⟨tb, 0, none⟩)] 99)).alloc (.cells #[.pointer (some ⟨6, 99, none⟩), .pointer (some ⟨w.heap.size, 0, none⟩), .int .u64 150] 127)).alloc (.cells #[.pointer (some ⟨6, 99, none⟩), .pointer (some ⟨w.heap.size, 0, none⟩), .int .u64 150] 127)) (by rw [World.cell?_alloc_lt _ _ ⟨w.heap.size, 0, none⟩ (by simp; omega)]; simp)
  have hB4 : Below w.heap.size w ((((w.alloc (.cells #[.pointer (some ⟨tb, 0, none⟩)] 99)).alloc (.cells #[.pointer (some ⟨6, 99, none⟩), .pointer (some ⟨w.heap.size, 0, none⟩), .int .u64 150] 127)).alloc (.cells #[.pointer (some ⟨6, 99, none⟩), .pointer (some ⟨w.heap.size, 0, none⟩), .int .u64 150] 127)).alloc (.cells #[.int .i64 c, .int .i64 li, .int .i64 co] 87)) := ((((Below.refl _ w).alloc (Nat.le_refl _) _).alloc (by simp) _).alloc (by simp; omega) _).alloc (by simp; omega) _
  have st := w_set41 tb (w.heap.size + 1 + 1 + 1) o0 o1 o2 c li co ((((w.alloc (.cells #[.pointer (some ⟨tb, 0, none⟩)] 99)).alloc (.cells #[.pointer (some ⟨6, 99, none⟩), .pointer (some ⟨w.heap.size, 0, none⟩), .int .u64 150] 127)).alloc (.cells #[.pointer (some ⟨6, 99, none⟩), .pointer (some ⟨w.heap.size, 0, none⟩), .int .u64 150] 127)).alloc (.cells #[.int .i64 c, .int .i64 li, .int .i64 co] 87))
    (by rw [World.cell?_alloc_at _ _ _ _ (by simp)]; rfl)
    (by rw [World.cell?_alloc_at _ _ _ _ (by simp)]; rfl)
    (by rw [World.cell?_alloc_at _ _ _ _ (by simp)]; rfl)
    (hT.next hB4)
  clear hB4 hT
  go_enter Tryz.func37, Tryz.ntmps37
  go_wp2
  refine wp_loop_rounds 1 ?_
  rw [rounds_succ]
  go_wp2
  go_ret
  exact ⟨rfl, rfl⟩
end Go.Proofs.YtdffleaokccgmaaGreatDoor.Par

namespace Go.Proofs.YtdffleaokccgmaaGreatDoor.Par
set_option linter.unusedVariables false
set_option maxRecDepth 100000
open Go.RowKit Go.Shelf
open Go.Proofs.YtdffleaokccgmaaGreatDoor.Ven (Seat Pole Ven Box venV venZ VenOwn NormTo normU IsOrder mayB)
open Go.Proofs.YtdffleaokccgmaaGreatDoor.Flt (Et I64 Chain)

theorem Et.next {w w' : World} (t : Et w) (h : Below w.heap.size w w') : Et w' := t.below h t.pos
set_option maxHeartbeats 1000000 in
theorem ask_nil (w : World) : Calls Tryz.prog 20 #[.nilIface] w fun e w' => e = .returned (.tuple #[.int .i64 0, .agg #[.int .i64 0, .int .i64 0]]) ∧ Below w.heap.size w w' := by
  go_enter Tryz.func20, Tryz.ntmps20
  go_wp2_with fail
  refine (as_nil _ _).mono ?_
  rintro e w1 ⟨rfl, rfl⟩
  go_wp2_with fail
  refine bodyPost_ret (v := .tuple #[.int .i64 0, .agg #[.int .i64 0, .int .i64 0]]) (by simp [results, Tryz.results20, go_sem]) rfl ?_
  refine ⟨rfl, ?_⟩
  exact ((Below.refl _ w).alloc (Nat.le_refl _) _).alloc (by simp) _
set_option maxHeartbeats 1000000 in
theorem ask_wrong (c li co : Int) (w : World) (hE : Et w) : Calls Tryz.prog 20 #[wrongV c li co] w fun e w' => e = .returned (.tuple #[.int .i64 c, .agg #[.int .i64 li, .int .i64 co]]) ∧ Below w.heap.size w w' := by
  have hB : Below w.heap.size w ((w.alloc (.cells #[.int .i64 0, .int .i64 0] 27)).alloc (.cells #[.int .i64 0, .int .i64 0, .int .i64 0] 87)) := ((Below.refl _ w).alloc (Nat.le_refl _) _).alloc (by simp) _
  have hT : Box ((w.alloc (.cells #[.int .i64 0, .int .i64 0] 27)).alloc (.cells #[.int .i64 0, .int .i64 0, .int .i64 0] 87)) (w.heap.size + 1) 87 #[.int .i64 0, .int .i64 0, .int .i64 0] := by
    have := Box.fresh (w.alloc (.cells #[.int .i64 0, .int .i64 0] 27)) 87 #[.int .i64 0, .int .i64 0, .int .i64 0]
    rw [World.size_alloc] at this; exact this
  have hS : Box ((w.alloc (.cells #[.int .i64 0, .int .i64 0] 27)).alloc (.cells #[.int .i64 0, .int .i64 0, .int .i64 0] 87)) w.heap.size 27 #[.int .i64 0, .int .i64 0] := (Box.fresh w _ _).next ((Below.refl _ _).alloc (Nat.le_refl _) _)
  have hcall := as_wrong c li co (w.heap.size + 1) _ _ _ _ (Et.next hE hB) hT
  have HB : Hid (Below w.heap.size w ((w.alloc (.cells #[.int .i64 0, .int .i64 0] 27)).alloc (.cells #[.int .i64 0, .int .i64 0, .int .i64 0] 87))) := hB
  clear hE hB
  go_enter Tryz.func20, Tryz.ntmps20
  go_wp2_with fail
  refine hcall.mono ?_
  rintro e w1 ⟨rfl, hw1⟩
  clear hcall
  generalize hW : (w.alloc (.cells #[.int .i64 0, .int .i64 0] 27)).alloc (.cells #[.int .i64 0, .int .i64 0, .int .i64 0] 87) = W at hw1 hT hS HB
  have hB4 := ((((Below.refl _ W).alloc (Nat.le_refl _) (.cells #[.pointer (some ⟨w.heap.size + 1, 0, none⟩)] 99)).alloc (by simp) (.cells #[.pointer (some ⟨6, 99, none⟩), .pointer (some ⟨W.heap.size, 0, none⟩), .int .u64 150] 127)).alloc (by simp; omega) (.cells #[.pointer (some ⟨6, 99, none⟩), .pointer (some ⟨W.heap.size, 0, none⟩), .int .u64 150] 127)).alloc (by simp; omega) (.cells #[.int .i64 c, .int .i64 li, .int .i64 co] 87)
  have t4 := hT.next hB4
  have s4 := hS.next hB4
  have hB5 := HB.out.trans (hB4.mono HB.out.size)
  have t5 := ((t4.set 0 (.int .i64 c)).set 1 (.int .i64 li)).set 2 (.int .i64 co)
  have s5 := ((s4.other (w.heap.size + 1) 0 (by omega) (.int .i64 c)).other (w.heap.size + 1) 1 (by omega) (.int .i64 li)).other (w.heap.size + 1) 2 (by omega) (.int .i64 co)
  have b5 := Below.setCell (Below.setCell (Below.setCell hB5 (p := ⟨w.heap.size + 1, 0, none⟩) (by simp) (.int .i64 c)) (p := ⟨w.heap.size + 1, 1, none⟩) (by simp) (.int .i64 li)) (p := ⟨w.heap.size + 1, 2, none⟩) (by simp) (.int .i64 co)
  rw [← hw1] at t5 s5 b5
  have HB5 : Hid (Below w.heap.size w w1) := b5
  have c0 : w1.cell? ⟨w.heap.size + 1, 0, none⟩ = some (.int .i64 c) := t5.cell 0 _ rfl
  have c1 : w1.cell? ⟨w.heap.size + 1, 1, none⟩ = some (.int .i64 li) := t5.cell 1 _ rfl
  have c2 : w1.cell? ⟨w.heap.size + 1, 2, none⟩ = some (.int .i64 co) := t5.cell 2 _ rfl
  have d0 := s5.cell 0 _ rfl
  have d1 := s5.cell 1 _ rfl
  have f0 := s5.frozen 0
  have f1 := s5.frozen 1
  have dl := s5.lt
  have cl := t5.lt
  clear hw1 hW hT hS hB4 t4 s4 hB5 t5 s5 b5 HB
  go_wp2_with fail
  go_region
  all_goals
    go_wp2_with fail
    refine bodyPost_ret (v := .tuple #[.int .i64 c, .agg #[.int .i64 li, .int .i64 co]]) (by simp [results, Tryz.results20, go_sem, d0, d1]) rfl ?_
    refine ⟨rfl, ?_⟩
    exact (Below.setCell (Below.setCell HB5.out (by simp) _) (by simp) _).drew
/-- A code and its place: of a venue, none. -/
def codeOf : Except (Int × Int × Int) Ven → Int × Int × Int
  | .error p => p
  | .ok _ => (0, 0, 0)
set_option maxHeartbeats 1000000 in
theorem check_of (l : List UInt8) (w : World) (err : Value) (c li co : Int)
    (hr : Calls Tryz.prog 19 #[.string ⟨l.toArray⟩] (w.alloc (.cells #[.int .i64 0, .int .i64 0] 27)) fun e w' => (∃ b1 m1 d1 gap rad b2 m2 d2 b3 m3 d3, e = .returned (.tuple #[venV b1 m1 d1 gap rad b2 m2 d2 b3 m3 d3, err])) ∧ Below (w.alloc (.cells #[.int .i64 0, .int .i64 0] 27)).heap.size (w.alloc (.cells #[.int .i64 0, .int .i64 0] 27)) w')
    (ha : ∀ W, Below w.heap.size w W → Calls Tryz.prog 20 #[err] W fun e w' => e = .returned (.tuple #[.int .i64 c, .agg #[.int .i64 li, .int .i64 co]]) ∧ Below W.heap.size W w') :
    Calls Tryz.prog 10 #[.string ⟨l.toArray⟩] w fun e w' => e = .returned (.tuple #[.int .i64 c, .agg #[.int .i64 li, .int .i64 co]]) ∧ Below w.heap.size w w' := by
  have hS := Box.fresh w 27 #[.int .i64 0, .int .i64 0]
  have HB : Hid (Below w.heap.size w (w.alloc (.cells #[.int .i64 0, .int .i64 0] 27))) := (Below.refl _ w).alloc (Nat.le_refl _) _
  have HA : Hid (∀ W, Below w.heap.size w W → Calls Tryz.prog 20 #[err] W fun e w' => e = .returned (.tuple #[.int .i64 c, .agg #[.int .i64 li, .int .i64 co]]) ∧ Below W.heap.size W w') := ha
  clear ha
  go_enter Tryz.func10, Tryz.ntmps10
  go_wp2_with fail
  refine hr.mono ?_
  rintro e w1 ⟨⟨b1, m1, d1, gap, rad, b2, m2, d2, b3, m3, d3, rfl⟩, hb1⟩
  have HS1 : Hid (Box w1 w.heap.size 27 #[.int .i64 0, .int .i64 0]) := hS.next hb1
  have HB1 : Hid (Below w.heap.size w w1) := HB.out.trans (hb1.mono HB.out.size)
  clear hr hS HB hb1
  go_wp2_with fail
  have hBA : Below w1.heap.size w1 (w1.alloc (.cells #[.slice b1 m1 d1, .int .i64 gap, .int .i64 rad, .slice b2 m2 d2, .slice b3 m3 d3] 33)) := (Below.refl _ w1).alloc (Nat.le_refl _) _
  have hB2 := HB1.out.trans (hBA.mono HB1.out.size)
  refine (HA.out _ hB2).mono ?_
  rintro e w2 ⟨rfl, hb2⟩
  have s2 := (HS1.out.next hBA).next hb2
  have d0 := s2.cell 0 _ rfl
  have d1 := s2.cell 1 _ rfl
  have f0 := s2.frozen 0
  have f1 := s2.frozen 1
  have dl := s2.lt
  have HB2 : Hid (Below w.heap.size w w2) := hB2.trans (hb2.mono hB2.size)
  clear s2 hb2 hB2 hBA HS1 HB1
  go_wp2_with fail
  refine bodyPost_ret (v := .tuple #[.int .i64 c, .agg #[.int .i64 li, .int .i64 co]]) (by simp [results, Tryz.results10, go_sem, d0, d1]) rfl ?_
  refine ⟨rfl, ?_⟩
  exact Below.setCell (Below.setCell HB2.out (by simp) _) (by simp) _
theorem check_any (l : List UInt8) (w : World) (hR : Tok.Rng w) (hE : Et w) :
    Calls Tryz.prog 10 #[.string ⟨l.toArray⟩] w fun e w' => e = .returned (.tuple #[.int .i64 (codeOf (readL l)).1, .agg #[.int .i64 (codeOf (readL l)).2.1, .int .i64 (codeOf (readL l)).2.2]]) ∧ Below w.heap.size w w' := by
  have hB : Below w.heap.size w (w.alloc (.cells #[.int .i64 0, .int .i64 0] 27)) := (Below.refl _ w).alloc (Nat.le_refl _) _
  have hrd := read_any l _ (hR.next hB)
  cases hl : readL l with
  | error p =>
    rw [hl] at hrd
    refine check_of l w (wrongV p.1 p.2.1 p.2.2) p.1 p.2.1 p.2.2 (hrd.mono ?_) (fun W hW => ask_wrong _ _ _ W (Et.next hE hW))
    rintro e w' ⟨rfl, hb⟩
    exact ⟨⟨_, _, _, _, _, _, _, _, _, _, _, rfl⟩, hb⟩
  | ok V =>
    rw [hl] at hrd
    refine check_of l w .nilIface 0 0 0 (hrd.mono ?_) (fun W hW => ask_nil W)
    rintro e w' ⟨⟨li, co, r, hN, hr⟩, hb⟩
    obtain ⟨ord, ho, rfl, hm⟩ := norm_good (readL_good hl) hN
    obtain ⟨b1, m1, d1, b2, m2, d2, b3, m3, d3, rfl, hv⟩ := hr
    exact ⟨⟨_, _, _, _, _, _, _, _, _, _, _, rfl⟩, hb⟩
end Go.Proofs.YtdffleaokccgmaaGreatDoor.Par

namespace Go.Proofs.YtdffleaokccgmaaGreatDoor.Par
set_option linter.unusedVariables false
set_option maxRecDepth 100000
open Go.RowKit Go.Shelf
open Go.Proofs.YtdffleaokccgmaaGreatDoor.Ven (Seat Pole Ven Box venV venZ VenOwn NormTo normU IsOrder mayB)
open Go.Proofs.YtdffleaokccgmaaGreatDoor.Flt (Et I64 Chain)

theorem toFault_none (li co : Int) (w : World) : Calls Tryz.prog 21 #[.int .i64 0, .agg #[.int .i64 li, .int .i64 co]] w fun e w' => e = .returned .nilIface ∧ Below w.heap.size w w' := by
  go_enter Tryz.func21, Tryz.ntmps21
  go_wp2_with fail
  refine (Flt.New_none 0 li co (by omega) _).mono ?_
  rintro e w1 ⟨rfl, rfl⟩
  go_wp2
  go_ret
  exact ⟨rfl, (Below.refl _ w).alloc (Nat.le_refl _) _⟩
/-- An error that is a fault of its own. -/
def FaultAt (c li co : Int) (v : Value) (W : World) : Prop := ∃ b, v = .iface 77 (.pointer (some ⟨b, 0, none⟩)) ∧ Box W b 80 #[.int .i64 c, .int .i64 li, .int .i64 co, .nilIface]
theorem FaultAt.next {c li co : Int} {v : Value} {W W' : World} (h : FaultAt c li co v W) (hb : Below W.heap.size W W') : FaultAt c li co v W' := by
  obtain ⟨b, hv, hB⟩ := h
  exact ⟨b, hv, hB.next hb⟩
theorem FaultAt.set {c li co : Int} {v : Value} {W : World} (h : FaultAt c li co v W) {g : Nat} {e : TypeId} {cs : Array Value} (hX : Box W g e cs) (he : 80 ≠ e) (i : Nat) (u : Value) : FaultAt c li co v (W.setCell ⟨g, i, none⟩ u) := by
  obtain ⟨b, hv, hB⟩ := h
  refine ⟨b, hv, hB.other g i (fun hc => ?_) u⟩
  subst hc
  unfold Box at hB hX
  rw [hB] at hX
  exact he (by injection hX with hX; injection hX)
theorem FaultAt.chain {c li co : Int} {v : Value} {W : World} (h : FaultAt c li co v W) (ic : I64 c) (il : I64 li) (io : I64 co) : Chain W v [(c, li, co)] := by
  obtain ⟨b, rfl, hB⟩ := h
  exact ⟨[⟨(b, c, li, co), hB.lt, hB.cell 0 _ rfl, hB.cell 1 _ rfl, hB.cell 2 _ rfl, ic, il, io⟩], ⟨rfl, .nilIface, hB.cell 3 _ rfl, Nat.zero_le _, rfl⟩, rfl⟩
theorem toFault_some (c li co : Int) (hc : 0 < c) (w : World) : Calls Tryz.prog 21 #[.int .i64 c, .agg #[.int .i64 li, .int .i64 co]] w fun e w' => ∃ v, e = .returned v ∧ FaultAt c (max li 0) (max co 0) v w' ∧ Below w.heap.size w w' := by
  go_enter Tryz.func21, Tryz.ntmps21
  go_wp2_with fail
  refine (Flt.New_some c li co hc _).mono ?_
  rintro e w1 ⟨rfl, rfl⟩
  go_wp2
  go_ret
  refine ⟨_, rfl, ⟨_, rfl, ?_⟩, ?_⟩
  · have h := Box.fresh (w.alloc (.cells #[.int .i64 li, .int .i64 co] 27)) 80 #[.int .i64 c, .int .i64 (max li 0), .int .i64 (max co 0), .nilIface]
    rw [World.size_alloc] at h
    exact h
  · exact ((Below.refl _ w).alloc (Nat.le_refl _) _).alloc (by simp) _
set_option maxHeartbeats 4000000 in
theorem venue_of (l : List UInt8) (w : World) (err : Value) (c li co : Int) (G : Value → World → Prop) (E : Value → World → Prop)
    (hE0 : ∀ v W W', E v W → Below W.heap.size W W' → E v W') (hE1 : ∀ v W g cs i u, E v W → Box W g 33 cs → E v (W.setCell ⟨g, i, none⟩ u))
    (hr : Calls Tryz.prog 19 #[.string ⟨l.toArray⟩] (w.alloc (.cells #[.slice none 0 0, .int .i64 0, .int .i64 0, .slice none 0 0, .slice none 0 0] 33)) fun e w' => (∃ b1 m1 d1 gap rad b2 m2 d2 b3 m3 d3, e = .returned (.tuple #[venV b1 m1 d1 gap rad b2 m2 d2 b3 m3 d3, err]) ∧ E (venV b1 m1 d1 gap rad b2 m2 d2 b3 m3 d3) w') ∧ Below (w.alloc (.cells #[.slice none 0 0, .int .i64 0, .int .i64 0, .slice none 0 0, .slice none 0 0] 33)).heap.size (w.alloc (.cells #[.slice none 0 0, .int .i64 0, .int .i64 0, .slice none 0 0, .slice none 0 0] 33)) w')
    (ha : ∀ W, Below w.heap.size w W → Calls Tryz.prog 20 #[err] W fun e w' => e = .returned (.tuple #[.int .i64 c, .agg #[.int .i64 li, .int .i64 co]]) ∧ Below W.heap.size W w')
    (hf : ∀ W, Below w.heap.size w W → Calls Tryz.prog 21 #[.int .i64 c, .agg #[.int .i64 li, .int .i64 co]] W fun e w' => ∃ v, e = .returned v ∧ G v w' ∧ Below W.heap.size W w')
    (hG0 : ∀ v W W', G v W → Below W.heap.size W W' → G v W') (hG1 : ∀ v W g cs i u, G v W → Box W g 33 cs → G v (W.setCell ⟨g, i, none⟩ u)) :
    Calls Tryz.prog 11 #[.string ⟨l.toArray⟩] w fun e w' => (∃ b1 m1 d1 gap rad b2 m2 d2 b3 m3 d3 v, e = .returned (.tuple #[venV b1 m1 d1 gap rad b2 m2 d2 b3 m3 d3, v]) ∧ E (venV b1 m1 d1 gap rad b2 m2 d2 b3 m3 d3) w' ∧ G v w') ∧ Below w.heap.size w w' := by
  have hS := Box.fresh w 33 #[.slice none 0 0, .int .i64 0, .int .i64 0, .slice none 0 0, .slice none 0 0]
  have HB : Hid (Below w.heap.size w (w.alloc (.cells #[.slice none 0 0, .int .i64 0, .int .i64 0, .slice none 0 0, .slice none 0 0] 33))) := (Below.refl _ w).alloc (Nat.le_refl _) _
  have HA : Hid (∀ W, Below w.heap.size w W → Calls Tryz.prog 20 #[err] W fun e w' => e = .returned (.tuple #[.int .i64 c, .agg #[.int .i64 li, .int .i64 co]]) ∧ Below W.heap.size W w') := ha
  have HF : Hid (∀ W, Below w.heap.size w W → Calls Tryz.prog 21 #[.int .i64 c, .agg #[.int .i64 li, .int .i64 co]] W fun e w' => ∃ v, e = .returned v ∧ G v w' ∧ Below W.heap.size W w') := hf
  have HE0 : Hid (∀ v W W', E v W → Below W.heap.size W W' → E v W') := hE0
  have HE1 : Hid (∀ v W g cs i u, E v W → Box W g 33 cs → E v (W.setCell ⟨g, i, none⟩ u)) := hE1
  have HG0 : Hid (∀ v W W', G v W → Below W.heap.size W W' → G v W') := hG0
  have HG1 : Hid (∀ v W g cs i u, G v W → Box W g 33 cs → G v (W.setCell ⟨g, i, none⟩ u)) := hG1
  clear ha hf hE0 hE1 hG0 hG1
  go_enter Tryz.func11, Tryz.ntmps11
  go_wp2_with fail
  refine hr.mono ?_
  rintro e w1 ⟨⟨b1, m1, d1, gap, rad, b2, m2, d2, b3, m3, d3, rfl, hEv⟩, hb1⟩
  have HS1 : Hid (Box w1 w.heap.size 33 #[.slice none 0 0, .int .i64 0, .int .i64 0, .slice none 0 0, .slice none 0 0]) := hS.next hb1
  have HB1 : Hid (Below w.heap.size w w1) := HB.out.trans (hb1.mono HB.out.size)
  have HEV : Hid (E (venV b1 m1 d1 gap rad b2 m2 d2 b3 m3 d3) w1) := hEv
  clear hr hS HB hb1 hEv
  go_wp2_with fail
  have hBA : Below w1.heap.size w1 (w1.alloc (.cells #[.slice b1 m1 d1, .int .i64 gap, .int .i64 rad, .slice b2 m2 d2, .slice b3 m3 d3] 33)) := (Below.refl _ w1).alloc (Nat.le_refl _) _
  have HW : Hid (∀ W, Below w1.heap.size w1 W → Below w.heap.size w W) := fun W hW => HB1.out.trans (hW.mono HB1.out.size)
  have hv1 := Box.fresh w1 33 #[.slice b1 m1 d1, .int .i64 gap, .int .i64 rad, .slice b2 m2 d2, .slice b3 m3 d3]
  have HS2 : Hid (Box (w1.alloc (.cells #[.slice b1 m1 d1, .int .i64 gap, .int .i64 rad, .slice b2 m2 d2, .slice b3 m3 d3] 33)) w.heap.size 33 #[.slice none 0 0, .int .i64 0, .int .i64 0, .slice none 0 0, .slice none 0 0]) := HS1.out.next hBA
  have HEV2 : Hid (E (venV b1 m1 d1 gap rad b2 m2 d2 b3 m3 d3) (w1.alloc (.cells #[.slice b1 m1 d1, .int .i64 gap, .int .i64 rad, .slice b2 m2 d2, .slice b3 m3 d3] 33))) := HE0.out _ _ _ HEV.out hBA
  have HB2 : Hid (Below w.heap.size w (w1.alloc (.cells #[.slice b1 m1 d1, .int .i64 gap, .int .i64 rad, .slice b2 m2 d2, .slice b3 m3 d3] 33))) := HB1.out.trans (hBA.mono HB1.out.size)
  clear HS1 HEV HW hBA
  generalize w1.alloc (.cells #[.slice b1 m1 d1, .int .i64 gap, .int .i64 rad, .slice b2 m2 d2, .slice b3 m3 d3] 33) = W at hv1 HS2 HEV2 HB2 ⊢
  generalize w1.heap.size = vb at hv1 ⊢
  have HV2 : Hid (Box W vb 33 #[.slice b1 m1 d1, .int .i64 gap, .int .i64 rad, .slice b2 m2 d2, .slice b3 m3 d3]) := hv1
  have y0 := hv1.cell 0 _ rfl
  have y1 := hv1.cell 1 _ rfl
  have y2 := hv1.cell 2 _ rfl
  have y3 := hv1.cell 3 _ rfl
  have y4 := hv1.cell 4 _ rfl
  have yl := hv1.lt
  clear hv1
  have HD : Hid (Below W.heap.size W W.drew) := (Below.refl _ W).drew
  go_region_with (first
    | (go_at_call 20; refine (HA.out _ (HB2.out.drew)).mono ?_; rintro e w3 ⟨rfl, hb3⟩; have HB3 : Hid (Below w.heap.size w w3) := (HB2.out.drew).trans (hb3.mono (HB2.out.drew).size); have HV3 : Hid (Box w3 vb 33 #[.slice b1 m1 d1, .int .i64 gap, .int .i64 rad, .slice b2 m2 d2, .slice b3 m3 d3]) := (HV2.out.next HD.out).next hb3; have HS3 : Hid (Box w3 w.heap.size 33 #[.slice none 0 0, .int .i64 0, .int .i64 0, .slice none 0 0, .slice none 0 0]) := (HS2.out.next HD.out).next hb3; have HE3 : Hid (E (venV b1 m1 d1 gap rad b2 m2 d2 b3 m3 d3) w3) := HE0.out _ _ _ (HE0.out _ _ _ HEV2.out HD.out) hb3; have z := HV3.out; have y0 := z.cell 0 _ rfl; have y1 := z.cell 1 _ rfl; have y2 := z.cell 2 _ rfl; have y3 := z.cell 3 _ rfl; have y4 := z.cell 4 _ rfl; have yl := z.lt; clear z hb3)
    | (go_at_call 21; refine (HF.out _ HB3.out).mono ?_; rintro e w4 ⟨v4, rfl, hg4, hb4⟩; have HB4 : Hid (Below w.heap.size w w4) := HB3.out.trans (hb4.mono HB3.out.size); have HS4 : Hid (Box w4 w.heap.size 33 #[.slice none 0 0, .int .i64 0, .int .i64 0, .slice none 0 0, .slice none 0 0]) := HS3.out.next hb4; have HE4 : Hid (E (venV b1 m1 d1 gap rad b2 m2 d2 b3 m3 d3) w4) := HE0.out _ _ _ HE3.out hb4; have HG4 : Hid (G v4 w4) := hg4; have z := HV3.out.next hb4; have y0 := z.cell 0 _ rfl; have y1 := z.cell 1 _ rfl; have y2 := z.cell 2 _ rfl; have y3 := z.cell 3 _ rfl; have y4 := z.cell 4 _ rfl; have yl := z.lt; have q := HS4.out; have x0 := q.cell 0 _ rfl; have f0 := q.frozen 0; have x1 := q.cell 1 _ rfl; have f1 := q.frozen 1; have x2 := q.cell 2 _ rfl; have f2 := q.frozen 2; have x3 := q.cell 3 _ rfl; have f3 := q.frozen 3; have x4 := q.cell 4 _ rfl; have f4 := q.frozen 4; have xl := q.lt; clear z q hb4 hg4))
  all_goals
    go_wp2_with fail
    refine bodyPost_ret (v := .tuple #[venV b1 m1 d1 gap rad b2 m2 d2 b3 m3 d3, v4]) (by simp [results, Tryz.results11, go_sem, x0, x1, x2, x3, x4]) rfl ?_
    have k0 := HS4.out
    have k1 := k0.set 0 (.slice b1 m1 d1)
    have k2 := k1.set 1 (.int .i64 gap)
    have k3 := k2.set 2 (.int .i64 rad)
    have k4 := k3.set 3 (.slice b2 m2 d2)
    refine ⟨⟨b1, m1, d1, gap, rad, b2, m2, d2, b3, m3, d3, v4, rfl, ?_, ?_⟩, ?_⟩
    · exact HE1.out _ _ _ _ 4 _ (HE1.out _ _ _ _ 3 _ (HE1.out _ _ _ _ 2 _ (HE1.out _ _ _ _ 1 _ (HE1.out _ _ _ _ 0 _ HE4.out k0) k1) k2) k3) k4
    · exact HG1.out _ _ _ _ 4 _ (HG1.out _ _ _ _ 3 _ (HG1.out _ _ _ _ 2 _ (HG1.out _ _ _ _ 1 _ (HG1.out _ _ _ _ 0 _ HG4.out k0) k1) k2) k3) k4
    · exact Below.setCell (Below.setCell (Below.setCell (Below.setCell (Below.setCell HB4.out (by simp) _) (by simp) _) (by simp) _) (by simp) _) (by simp) _
/-- What Venue hands back. -/
def VenTo (w : World) (o : Except (Int × Int × Int) Ven) (e : Ending) (w' : World) : Prop :=
  (match o with
  | .error p => ∃ v, e = .returned (.tuple #[venZ, v]) ∧ FaultAt p.1 (max p.2.1 0) (max p.2.2 0) v w'
  | .ok V => ∃ ord, IsOrder V.seats ord ∧ mayB (normU V ord) = true ∧ ∃ b1 m1 d1 b2 m2 d2 b3 m3 d3, e = .returned (.tuple #[venV b1 m1 d1 V.gap V.radius b2 m2 d2 b3 m3 d3, .nilIface]) ∧ VenOwn w' b1 m1 d1 b2 m2 d2 b3 m3 d3 (normU V ord)) ∧ Below w.heap.size w w'
theorem venue_any (l : List UInt8) (w : World) (hR : Tok.Rng w) (hE : Et w) (hp : ∀ p, readL l = .error p → 0 < p.1) :
    Calls Tryz.prog 11 #[.string ⟨l.toArray⟩] w fun e w' => VenTo w (readL l) e w' := by
  have hB : Below w.heap.size w (w.alloc (.cells #[.slice none 0 0, .int .i64 0, .int .i64 0, .slice none 0 0, .slice none 0 0] 33)) := (Below.refl _ w).alloc (Nat.le_refl _) _
  have hrd := read_any l _ (hR.next hB)
  cases hl : readL l with
  | error p =>
    rw [hl] at hrd
    have hp0 := hp p hl
    refine (venue_of l w (wrongV p.1 p.2.1 p.2.2) p.1 p.2.1 p.2.2 (fun v W => FaultAt p.1 (max p.2.1 0) (max p.2.2 0) v W) (fun v _ => v = venZ) (fun _ _ _ h _ => h) (fun _ _ _ _ _ _ h _ => h) (hrd.mono ?_) (fun W hW => ask_wrong _ _ _ W (Et.next hE hW)) (fun W hW => toFault_some _ _ _ hp0 W) (fun _ _ _ h hb => h.next hb) (fun _ _ _ _ i u h hX => h.set hX (by decide) i u)).mono ?_
    · rintro e w' ⟨rfl, hb⟩
      exact ⟨⟨_, _, _, _, _, _, _, _, _, _, _, rfl, rfl⟩, hb⟩
    · rintro e w' ⟨⟨b1, m1, d1, gap, rad, b2, m2, d2, b3, m3, d3, v, rfl, hz, hf⟩, hb⟩
      exact ⟨⟨v, by rw [hz], hf⟩, hb⟩
  | ok V =>
    rw [hl] at hrd
    refine (venue_of l w .nilIface 0 0 0 (fun v _ => v = .nilIface) (fun v W => ∃ ord, IsOrder V.seats ord ∧ mayB (normU V ord) = true ∧ ∃ b1 m1 d1 b2 m2 d2 b3 m3 d3, v = venV b1 m1 d1 V.gap V.radius b2 m2 d2 b3 m3 d3 ∧ VenOwn W b1 m1 d1 b2 m2 d2 b3 m3 d3 (normU V ord)) ?_ ?_ (hrd.mono ?_) (fun W hW => ask_nil W) (fun W hW => (toFault_none 0 0 W).mono fun e w' ⟨he, hb⟩ => ⟨_, he, rfl, hb⟩) (fun _ _ _ h _ => h) (fun _ _ _ _ _ _ h _ => h)).mono ?_
    · rintro v W W' ⟨ord, ho, hm, b1, m1, d1, b2, m2, d2, b3, m3, d3, hv, hU⟩ hb
      exact ⟨ord, ho, hm, b1, m1, d1, b2, m2, d2, b3, m3, d3, hv, hU.next hb⟩
    · rintro v W g cs i u ⟨ord, ho, hm, b1, m1, d1, b2, m2, d2, b3, m3, d3, hv, hU⟩ hX
      exact ⟨ord, ho, hm, b1, m1, d1, b2, m2, d2, b3, m3, d3, hv, hU.set hX (by decide) (by decide) (by decide) i u⟩
    · rintro e w' ⟨⟨li, co, r, hN, hr⟩, hb⟩
      obtain ⟨ord, ho, rfl, hm⟩ := norm_good (readL_good hl) hN
      obtain ⟨b1, m1, d1, b2, m2, d2, b3, m3, d3, rfl, hv⟩ := hr
      exact ⟨⟨_, _, _, _, _, _, _, _, _, _, _, rfl, ord, ho, hm, b1, m1, d1, b2, m2, d2, b3, m3, d3, rfl, hv⟩, hb⟩
    · rintro e w' ⟨⟨b1, m1, d1, gap, rad, b2, m2, d2, b3, m3, d3, v, rfl, ⟨ord, ho, hm, a1, n1, c1, a2, n2, c2, a3, n3, c3, hv, hU⟩, hf⟩, hb⟩
      subst hf
      exact ⟨⟨ord, ho, hm, a1, n1, c1, a2, n2, c2, a3, n3, c3, by rw [hv], hU⟩, hb⟩
end Go.Proofs.YtdffleaokccgmaaGreatDoor.Par

namespace Go.Proofs.YtdffleaokccgmaaGreatDoor.Par
set_option linter.unusedVariables false
set_option maxRecDepth 100000
open Go.Proofs.YtdffleaokccgmaaGreatDoor.Ven (Seat Pole Ven)

theorem read_t1 : readL [103, 97, 112, 32, 50, 10, 119, 104, 101, 101, 108, 32, 49, 32, 51, 32, 52, 32, 35, 32, 104, 101, 114, 101, 10, 115, 101, 97, 116, 32, 48, 32, 53, 32, 54, 10, 107, 105, 108, 108, 32, 49, 32, 51, 10, 112, 111, 108, 101, 32, 48, 32, 48, 32, 57, 10] = .ok ⟨[⟨1, 3, 4, 1⟩, ⟨0, 5, 6, 0⟩], 2, 0, [0], [⟨0, 0, 9⟩]⟩ := by kernel_rfl
theorem read_t2 : readL [] = .error (2, 1, 1) := by kernel_rfl
theorem read_t3 : readL [103, 97, 112, 32, 49, 10, 115, 101, 97, 116, 32, 48, 32, 48, 32, 48, 10, 115, 101, 97, 116, 32, 48, 32, 48, 32, 53, 10] = .error (2, 3, 1) := by kernel_rfl
theorem read_t4 : readL [103, 97, 112, 32, 49, 10, 115, 101, 97, 116, 32, 48, 32, 48, 32, 48, 10, 107, 105, 108, 108, 32, 48, 32, 57] = .error (2, 3, 6) := by kernel_rfl
theorem read_t5 : readL [103, 97, 112, 32, 48, 10] = .error (2, 1, 5) := by kernel_rfl
theorem read_t6 : readL [115, 101, 97, 116, 32, 49, 32, 50, 10] = .error (2, 1, 9) := by kernel_rfl
theorem read_t7 : readL [120] = .error (2, 1, 1) := by kernel_rfl
end Go.Proofs.YtdffleaokccgmaaGreatDoor.Par

namespace Go.Proofs.YtdffleaokccgmaaGreatDoor.Par
set_option linter.unusedVariables false
set_option maxRecDepth 100000
open Go.RowKit Go.Shelf
open Go.Proofs.YtdffleaokccgmaaGreatDoor.Ven (Seat Pole Ven Box venV venZ VenAt VenOwn NormTo normU IsOrder mayB order_unique rising_order BelowOf wp_region_quiet_below mixed SeatAt below_alloc ltS)
open Go.Proofs.YtdffleaokccgmaaGreatDoor.Flt (Et I64 Chain)

/-- What the law leans on in memory: the listed variables that are read. -/
structure Has0 (w : World) : Prop where
  rng : Tok.Rng w
  et : Et w
theorem Has0.next {w w' : World} (h : Has0 w) (hb : Below w.heap.size w w') : Has0 w' := ⟨h.rng.next hb, Et.next h.et hb⟩
def V1 : Ven := ⟨[⟨1, 3, 4, 1⟩, ⟨0, 5, 6, 0⟩], 2, 0, [0], [⟨0, 0, 9⟩]⟩
def U1 : Ven := ⟨[⟨0, 5, 6, 0⟩, ⟨1, 3, 4, 1⟩], 2, 0, [1], [⟨0, 0, 9⟩]⟩
theorem norm_V1 {ord : List Nat} (h : IsOrder V1.seats ord) : normU V1 ord = U1 := by
  have hr : ([1, 0] : List Nat).Pairwise fun i j => ltS V1.seats[i]! V1.seats[j]! = true := by decide
  have hp : ([1, 0] : List Nat).Perm (List.range V1.seats.length) := List.Perm.swap 0 1 []
  rw [← order_unique (rising_order hp hr) h hr]
  decide
theorem told_v1 (w : World) (hL : Has0 w) : Calls Tryz.prog 11 #[.string ⟨[103, 97, 112, 32, 50, 10, 119, 104, 101, 101, 108, 32, 49, 32, 51, 32, 52, 32, 35, 32, 104, 101, 114, 101, 10, 115, 101, 97, 116, 32, 48, 32, 53, 32, 54, 10, 107, 105, 108, 108, 32, 49, 32, 51, 10, 112, 111, 108, 101, 32, 48, 32, 48, 32, 57, 10].toArray⟩] w fun e w' => ∃ sb so sc kb ko kc pa pc, e = .returned (.tuple #[venV (some ⟨sb, so, none⟩) 2 sc 2 0 (some ⟨kb, ko, none⟩) 1 kc pa 1 pc, .nilIface]) ∧ VenAt w' (some ⟨sb, so, none⟩) 2 sc (some ⟨kb, ko, none⟩) 1 kc pa 1 pc U1 ∧ Below w.heap.size w w' := by
  refine (venue_any [103, 97, 112, 32, 50, 10, 119, 104, 101, 101, 108, 32, 49, 32, 51, 32, 52, 32, 35, 32, 104, 101, 114, 101, 10, 115, 101, 97, 116, 32, 48, 32, 53, 32, 54, 10, 107, 105, 108, 108, 32, 49, 32, 51, 10, 112, 111, 108, 101, 32, 48, 32, 48, 32, 57, 10] w hL.rng hL.et (fun p hp => by rw [read_t1] at hp; cases hp)).mono ?_
  rintro e w' ⟨hv, hb⟩
  rw [read_t1] at hv
  obtain ⟨ord, ho, _, b1, m1, d1, b2, m2, d2, b3, m3, d3, rfl, hU⟩ := hv
  have hn := norm_V1 ho
  unfold V1 at hn
  rw [hn] at hU
  have hA := hU.at
  have e1 : m1 = 2 := hA.s.len
  have e2 : m2 = 1 := hA.k.len
  have e3 : m3 = 1 := hA.p.len
  subst e1 e2 e3
  rcases hA.s with ⟨_, h⟩ | ⟨sb, so, sc, he, _⟩
  · cases h
  rcases hA.k with ⟨_, h⟩ | ⟨kb, ko, kc, hk, _⟩
  · cases h
  injection he with he1 _ _
  injection hk with hk1 _ _
  subst he1 hk1
  exact ⟨sb, so, d1, kb, ko, d2, b3, d3, rfl, hA, hb⟩
theorem told_c2 (w : World) (hL : Has0 w) : Calls Tryz.prog 10 #[.string ⟨[].toArray⟩] w fun e w' => e = .returned (.tuple #[.int .i64 2, .agg #[.int .i64 1, .int .i64 1]]) ∧ Below w.heap.size w w' := by
  have h := check_any [] w hL.rng hL.et
  rw [read_t2] at h
  exact h
theorem told_c3 (w : World) (hL : Has0 w) : Calls Tryz.prog 10 #[.string ⟨[103, 97, 112, 32, 49, 10, 115, 101, 97, 116, 32, 48, 32, 48, 32, 48, 10, 115, 101, 97, 116, 32, 48, 32, 48, 32, 53, 10].toArray⟩] w fun e w' => e = .returned (.tuple #[.int .i64 2, .agg #[.int .i64 3, .int .i64 1]]) ∧ Below w.heap.size w w' := by
  have h := check_any [103, 97, 112, 32, 49, 10, 115, 101, 97, 116, 32, 48, 32, 48, 32, 48, 10, 115, 101, 97, 116, 32, 48, 32, 48, 32, 53, 10] w hL.rng hL.et
  rw [read_t3] at h
  exact h
theorem told_c4 (w : World) (hL : Has0 w) : Calls Tryz.prog 10 #[.string ⟨[103, 97, 112, 32, 49, 10, 115, 101, 97, 116, 32, 48, 32, 48, 32, 48, 10, 107, 105, 108, 108, 32, 48, 32, 57].toArray⟩] w fun e w' => e = .returned (.tuple #[.int .i64 2, .agg #[.int .i64 3, .int .i64 6]]) ∧ Below w.heap.size w w' := by
  have h := check_any [103, 97, 112, 32, 49, 10, 115, 101, 97, 116, 32, 48, 32, 48, 32, 48, 10, 107, 105, 108, 108, 32, 48, 32, 57] w hL.rng hL.et
  rw [read_t4] at h
  exact h
theorem told_c5 (w : World) (hL : Has0 w) : Calls Tryz.prog 10 #[.string ⟨[103, 97, 112, 32, 48, 10].toArray⟩] w fun e w' => e = .returned (.tuple #[.int .i64 2, .agg #[.int .i64 1, .int .i64 5]]) ∧ Below w.heap.size w w' := by
  have h := check_any [103, 97, 112, 32, 48, 10] w hL.rng hL.et
  rw [read_t5] at h
  exact h
theorem told_c6 (w : World) (hL : Has0 w) : Calls Tryz.prog 10 #[.string ⟨[115, 101, 97, 116, 32, 49, 32, 50, 10].toArray⟩] w fun e w' => e = .returned (.tuple #[.int .i64 2, .agg #[.int .i64 1, .int .i64 9]]) ∧ Below w.heap.size w w' := by
  have h := check_any [115, 101, 97, 116, 32, 49, 32, 50, 10] w hL.rng hL.et
  rw [read_t6] at h
  exact h
theorem told_v7 (w : World) (hL : Has0 w) : Calls Tryz.prog 11 #[.string ⟨[120].toArray⟩] w fun e w' => ∃ v, e = .returned (.tuple #[venZ, v]) ∧ FaultAt 2 1 1 v w' ∧ Below w.heap.size w w' := by
  refine (venue_any [120] w hL.rng hL.et (fun p hp => by rw [read_t7] at hp; injection hp with hp; subst hp; decide)).mono ?_
  rintro e w' ⟨hv, hb⟩
  rw [read_t7] at hv
  obtain ⟨v, he, hf⟩ := hv
  exact ⟨v, he, hf, hb⟩
structure TSt (w : World) (B1 B2 B3 B4 B5 B6 sb so sc kb ko kc : Nat) (pa : Option Addr) (pc : Nat) (v : Value) (W : World) : Prop where
  past : Below w.heap.size w W
  lean : Has0 W
  x : Box W B1 33 #[.slice (some ⟨sb, so, none⟩) 2 sc, .int .i64 2, .int .i64 0, .slice (some ⟨kb, ko, none⟩) 1 kc, .slice pa 1 pc]
  u : VenAt W (some ⟨sb, so, none⟩) 2 sc (some ⟨kb, ko, none⟩) 1 kc pa 1 pc U1
  s2 : Box W B2 27 #[.int .i64 1, .int .i64 1]
  s3 : Box W B3 27 #[.int .i64 3, .int .i64 1]
  s4 : Box W B4 27 #[.int .i64 3, .int .i64 6]
  s5 : Box W B5 27 #[.int .i64 1, .int .i64 5]
  s6 : Box W B6 27 #[.int .i64 1, .int .i64 9]
  f : FaultAt 2 1 1 v W
variable {w : World} {B1 B2 B3 B4 B5 B6 sb so sc kb ko kc : Nat} {pa : Option Addr} {pc : Nat} {v : Value} {W W' : World}
theorem TSt.next (h : TSt w B1 B2 B3 B4 B5 B6 sb so sc kb ko kc pa pc v W) (hb : Below W.heap.size W W') : TSt w B1 B2 B3 B4 B5 B6 sb so sc kb ko kc pa pc v W' :=
  ⟨h.past.trans (hb.mono h.past.size), h.lean.next hb, h.x.next hb, h.u.next hb, h.s2.next hb, h.s3.next hb, h.s4.next hb, h.s5.next hb, h.s6.next hb, h.f.next hb⟩
theorem TSt.seat0 (h : TSt w B1 B2 B3 B4 B5 B6 sb so sc kb ko kc pa pc v W) : SeatAt W sb so 0 5 6 0 := by
  have := (h.u.s.some_cells (by decide)).seat 0 (by decide)
  simpa [U1] using this
theorem TSt.seat1 (h : TSt w B1 B2 B3 B4 B5 B6 sb so sc kb ko kc pa pc v W) : SeatAt W sb (so + 4) 1 3 4 1 := by
  have := (h.u.s.some_cells (by decide)).seat 1 (by decide)
  simpa [U1] using this
theorem TSt.kill0 (h : TSt w B1 B2 B3 B4 B5 B6 sb so sc kb ko kc pa pc v W) : W.cell? ⟨kb, ko, none⟩ = some (.int .i64 1) := by
  have := (h.u.k.some_cells (by decide)).int 0 (by decide)
  simpa [U1] using this
theorem told_code (v : Value) (W : World) (hE : Et W) (hf : FaultAt 2 1 1 v W) : Calls Tryz.prog 13 #[v] W fun e w' => e = .returned (.int .i64 2) ∧ Below W.heap.size W w' :=
  callsIn_wide.1 (Flt.Code_in 3 (by omega) v (2, 1, 1) [] W hE (hf.chain (by unfold I64; omega) (by unfold I64; omega) (by unfold I64; omega)))
theorem told_spot (v : Value) (W : World) (hE : Et W) (hf : FaultAt 2 1 1 v W) : Calls Tryz.prog 14 #[v] W fun e w' => e = .returned (.agg #[.int .i64 1, .int .i64 1]) ∧ Below W.heap.size W w' :=
  callsIn_wide.1 (Flt.Spot_in 3 (by omega) v [(2, 1, 1)] W hE (hf.chain (by unfold I64; omega) (by unfold I64; omega) (by unfold I64; omega)))
set_option maxHeartbeats 8000000 in
theorem told_any (w : World) (hL : Has0 w) : Calls Tryz.prog 7 #[] w fun e w' => e = .returned (.bool true) ∧ Below w.heap.size w w' := by
  have HL : Hid (Has0 w) := hL
  clear hL
  go_enter Tryz.func7, Tryz.ntmps7
  go_wp2_with fail
  refine (told_v1 w HL.out).mono ?_
  rintro e w1 ⟨sb, so, sc, kb, ko, kc, pa, pc, rfl, hu, hb⟩
  have al1 := below_alloc w1 (.cells #[.slice (some ⟨sb, so, none⟩) 2 sc, .int .i64 2, .int .i64 0, .slice (some ⟨kb, ko, none⟩) 1 kc, .slice pa 1 pc] 33)
  have p1 := hb.trans (al1.mono hb.size)
  have x1 := Box.fresh w1 33 #[.slice (some ⟨sb, so, none⟩) 2 sc, .int .i64 2, .int .i64 0, .slice (some ⟨kb, ko, none⟩) 1 kc, .slice pa 1 pc]
  have u1 := hu.next al1
  have l1 := HL.out.next p1
  clear hb al1 hu HL
  go_wp2_with fail
  refine (told_c2 _ l1).mono ?_
  rintro e w2 ⟨rfl, hb⟩
  have al := below_alloc w2 (.cells #[.int .i64 1, .int .i64 1] 27)
  have hbb := hb.trans (al.mono hb.size)
  have p2 := p1.trans (hbb.mono p1.size)
  have l2 := l1.next hbb
  replace x1 := x1.next hbb
  replace u1 := u1.next hbb
  have s2 := Box.fresh w2 27 #[.int .i64 1, .int .i64 1]
  clear hb al hbb p1 l1
  go_wp2_with fail
  refine (told_c3 _ l2).mono ?_
  rintro e w3 ⟨rfl, hb⟩
  have al := below_alloc w3 (.cells #[.int .i64 3, .int .i64 1] 27)
  have hbb := hb.trans (al.mono hb.size)
  have p3 := p2.trans (hbb.mono p2.size)
  have l3 := l2.next hbb
  replace x1 := x1.next hbb
  replace u1 := u1.next hbb
  replace s2 := s2.next hbb
  have s3 := Box.fresh w3 27 #[.int .i64 3, .int .i64 1]
  clear hb al hbb p2 l2
  go_wp2_with fail
  refine (told_c4 _ l3).mono ?_
  rintro e w4 ⟨rfl, hb⟩
  have al := below_alloc w4 (.cells #[.int .i64 3, .int .i64 6] 27)
  have hbb := hb.trans (al.mono hb.size)
  have p4 := p3.trans (hbb.mono p3.size)
  have l4 := l3.next hbb
  replace x1 := x1.next hbb
  replace u1 := u1.next hbb
  replace s2 := s2.next hbb
  replace s3 := s3.next hbb
  have s4 := Box.fresh w4 27 #[.int .i64 3, .int .i64 6]
  clear hb al hbb p3 l3
  go_wp2_with fail
  refine (told_c5 _ l4).mono ?_
  rintro e w5 ⟨rfl, hb⟩
  have al := below_alloc w5 (.cells #[.int .i64 1, .int .i64 5] 27)
  have hbb := hb.trans (al.mono hb.size)
  have p5 := p4.trans (hbb.mono p4.size)
  have l5 := l4.next hbb
  replace x1 := x1.next hbb
  replace u1 := u1.next hbb
  replace s2 := s2.next hbb
  replace s3 := s3.next hbb
  replace s4 := s4.next hbb
  have s5 := Box.fresh w5 27 #[.int .i64 1, .int .i64 5]
  clear hb al hbb p4 l4
  go_wp2_with fail
  refine (told_c6 _ l5).mono ?_
  rintro e w6 ⟨rfl, hb⟩
  have al := below_alloc w6 (.cells #[.int .i64 1, .int .i64 9] 27)
  have hbb := hb.trans (al.mono hb.size)
  have p6 := p5.trans (hbb.mono p5.size)
  have l6 := l5.next hbb
  replace x1 := x1.next hbb
  replace u1 := u1.next hbb
  replace s2 := s2.next hbb
  replace s3 := s3.next hbb
  replace s4 := s4.next hbb
  replace s5 := s5.next hbb
  have s6 := Box.fresh w6 27 #[.int .i64 1, .int .i64 9]
  clear hb al hbb p5 l5
  go_wp2_with fail
  refine (told_v7 _ l6).mono ?_
  rintro e w7 ⟨v, rfl, hf, hb⟩
  have st : TSt w w1.heap.size w2.heap.size w3.heap.size w4.heap.size w5.heap.size w6.heap.size sb so sc kb ko kc pa pc v w7 :=
    ⟨p6.trans (hb.mono p6.size), l6.next hb, x1.next hb, u1.next hb, s2.next hb, s3.next hb, s4.next hb, s5.next hb, s6.next hb, hf⟩
  clear hb x1 u1 s2 s3 s4 s5 s6 p6 l6 hf
  obtain ⟨fb, rfl, _⟩ := id st.f
  generalize w1.heap.size = B1 at st ⊢
  generalize w2.heap.size = B2 at st ⊢
  generalize w3.heap.size = B3 at st ⊢
  generalize w4.heap.size = B4 at st ⊢
  generalize w5.heap.size = B5 at st ⊢
  generalize w6.heap.size = B6 at st ⊢
  have i0 := st.x.cell 0 _ rfl
  have i1 := st.x.cell 1 _ rfl
  have i2 := st.x.cell 2 _ rfl
  have i3 := st.x.cell 3 _ rfl
  have i4 := st.x.cell 4 _ rfl
  have il := st.x.lt
  have j20 := st.s2.cell 0 _ rfl
  have j21 := st.s2.cell 1 _ rfl
  have jl2 := st.s2.lt
  have j30 := st.s3.cell 0 _ rfl
  have j31 := st.s3.cell 1 _ rfl
  have jl3 := st.s3.lt
  have j40 := st.s4.cell 0 _ rfl
  have j41 := st.s4.cell 1 _ rfl
  have jl4 := st.s4.lt
  have j50 := st.s5.cell 0 _ rfl
  have j51 := st.s5.cell 1 _ rfl
  have jl5 := st.s5.lt
  have j60 := st.s6.cell 0 _ rfl
  have j61 := st.s6.cell 1 _ rfl
  have jl6 := st.s6.lt
  have s0 := st.seat0.c0
  have s1 := st.seat0.c1
  have s2 := st.seat0.c2
  have s3 := st.seat0.c3
  have t0 := st.seat1.c0
  have t1 := st.seat1.c1
  have t2 := st.seat1.c2
  have t3 := st.seat1.c3
  have sl := (st.u.s.some_cells (by decide)).1
  have k0 := st.kill0
  have kl := (st.u.k.some_cells (by decide)).1
  have ST : Hid (TSt w B1 B2 B3 B4 B5 B6 sb so sc kb ko kc pa pc (.iface 77 (.pointer (some ⟨fb, 0, none⟩))) (w7.alloc (.cells #[.slice none 0 0, .int .i64 0, .int .i64 0, .slice none 0 0, .slice none 0 0] 33))) := st.next (below_alloc _ _)
  clear st
  simp only [Nat.add_assoc, Nat.reduceAdd] at s0 s1 s2 s3 t0 t1 t2 t3
  go_wp2_with fail
  refine (told_code _ _ ST.out.lean.et ST.out.f).mono ?_
  rintro e w8 ⟨rfl, hb8⟩
  have ST8 : Hid (TSt w B1 B2 B3 B4 B5 B6 sb so sc kb ko kc pa pc (.iface 77 (.pointer (some ⟨fb, 0, none⟩))) w8) := ST.out.next hb8
  clear hb8 ST
  go_wp2_with fail
  refine (told_spot _ _ ST8.out.lean.et ST8.out.f).mono ?_
  rintro e w9 ⟨rfl, hb9⟩
  have st9 := (ST8.out.next hb9).past
  clear hb9
  go_wp2
  go_ret
  exact ⟨rfl, st9⟩
end Go.Proofs.YtdffleaokccgmaaGreatDoor.Par

namespace Go.Proofs.YtdffleaokccgmaaGreatDoor.Par
set_option linter.unusedVariables false
set_option maxRecDepth 100000
open Go.Proofs.YtdffleaokccgmaaGreatDoor.Ven (Seat Pole Ven)
open Go.Proofs.YtdffleaokccgmaaGreatDoor.Prs (kindL atI)

/-- A place of a text of so many bytes. -/
def InT (n : Nat) (p : Int × Int) : Prop := 1 ≤ p.1 ∧ p.1 ≤ (n : Int) + 1 ∧ 1 ≤ p.2 ∧ p.2 ≤ (n : Int) + 1
theorem allP_spots : ∀ (n : Nat) (r : List UInt8) (li co : Int), r.length ≤ n → 1 ≤ li → 1 ≤ co →
    (∀ t ∈ (Tok.allP r li co).1, 1 ≤ t.2.2.1 ∧ t.2.2.1 ≤ li + r.length ∧ 1 ≤ t.2.2.2.1 ∧ t.2.2.2.1 ≤ co + r.length) ∧
    (1 ≤ (Tok.allP r li co).2.1 ∧ (Tok.allP r li co).2.1 ≤ li + r.length ∧ 1 ≤ (Tok.allP r li co).2.2.1 ∧ (Tok.allP r li co).2.2.1 ≤ co + r.length) := by
  intro n
  induction n with
  | zero =>
    intro r li co hr h1 h2
    rcases Tok.allP_cases r li co with ⟨hk, e⟩ | ⟨hlt, _⟩ | ⟨hlt, _⟩
    · rw [e]; exact ⟨by simp, by omega, by simp; omega, by simp; omega, by simp⟩
    · omega
    · omega
  | succ n ih =>
    intro r li co hr h1 h2
    rcases Tok.allP_cases r li co with ⟨hk, e⟩ | ⟨hlt, gk, gn, gt, gs, hrd, e⟩ | ⟨hlt, gk, gn, gt, gs, hrd, g1, g2, g3, e⟩
    · rw [e]; exact ⟨by simp, by omega, by simp; omega, by simp; omega, by simp⟩
    · have hle := Tok.readL_le (r.drop (Tok.unsaidL r))
      rw [hrd, List.length_drop] at hle
      simp only at hle
      rw [e]
      exact ⟨by simp, by omega, by simp; omega, by simp; omega, by simp; omega⟩
    · have hlen : (r.drop (Tok.unsaidL r + gs)).length = r.length - (Tok.unsaidL r + gs) := List.length_drop
      have key := ih (r.drop (Tok.unsaidL r + gs)) (if gk = 3 then li + 1 else li) (if gk = 3 then 1 else co + Tok.unsaidL r + gs) (by omega) (by split <;> omega) (by split <;> omega)
      rw [hlen] at key
      have hA : (if gk = 3 then li + 1 else li) ≤ li + 1 := by split <;> omega
      have hB : (if gk = 3 then 1 else co + (Tok.unsaidL r : Int) + gs) ≤ co + (Tok.unsaidL r + gs : Nat) := by split <;> omega
      have hc : ((r.length - (Tok.unsaidL r + gs) : Nat) : Int) = (r.length : Int) - (Tok.unsaidL r + gs : Nat) := by omega
      rw [hc] at key
      rw [e]
      generalize hU : Tok.unsaidL r = U at *
      generalize (if gk = 3 then li + 1 else li) = li2 at *
      generalize (if gk = 3 then 1 else co + (U : Int) + gs) = co2 at *
      generalize Tok.allP (r.drop (U + gs)) li2 co2 = A at *
      obtain ⟨k1, k2, k3, k4, k5⟩ := key
      have hlt' : (U : Int) + gs ≤ r.length := by omega
      refine ⟨?_, k2, by show A.2.1 ≤ _; omega, k4, by show A.2.2.1 ≤ _; omega⟩
      intro t ht
      rcases List.mem_cons.1 ht with rfl | ht
      · refine ⟨h1, ?_, ?_, ?_⟩
        · show li ≤ li + r.length; omega
        · show 1 ≤ co + (U : Int); omega
        · show co + (U : Int) ≤ co + r.length; omega
      · obtain ⟨a, b, c, d⟩ := k1 t ht
        exact ⟨a, by omega, c, by omega⟩
theorem form_spot {P : Int × Int → Prop} : ∀ (n : Nat) (l : List T) (e p : Int × Int), (∀ t ∈ l, P (spotT t)) → P e → formL n l e = some p → P p
  | 0, [], _, _, _, _, h => by simp [formL] at h
  | 0, t :: r, e, p, hl, he, h => by simp [formL] at h; subst h; exact hl t (by simp)
  | n + 1, [], e, p, hl, he, h => by simp [formL] at h; subst h; exact he
  | n + 1, t :: r, e, p, hl, he, h => by
    unfold formL at h
    split at h
    · exact form_spot n r e p (fun u hu => hl u (by simp [hu])) he h
    · simp at h; subst h; exact hl t (by simp)
theorem range_spot {P : Int × Int → Prop} (k : Nat) : ∀ (i : Nat) (l : List T) (p : Int × Int), (∀ t ∈ l, P (spotT t)) → rangeL k i l = some p → P p
  | i, [], p, _, h => by simp [rangeL] at h
  | i, t :: r, p, hl, h => by
    unfold rangeL at h
    split at h
    · exact range_spot k (i + 1) r p (fun u hu => hl u (by simp [hu])) h
    · simp at h; subst h; exact hl t (by simp)
theorem line_spot {P : Int × Int → Prop} (ts : List T) (e : Int × Int) (s : St) (hl : ∀ t ∈ ts, P (spotT t)) (he : P e) (hk : ∀ k ∈ s.kills, P k.word ∧ P k.first) :
    (∀ p, lineL ts e s = .error p → P p) ∧ (∀ s', lineL ts e s = .ok s' → ∀ k ∈ s'.kills, P k.word ∧ P k.first) := by
  cases ts with
  | nil => exact ⟨fun p h => by simp [lineL] at h, fun s' h => by simp [lineL] at h; subst h; exact hk⟩
  | cons w rest =>
    have hw : P (spotT w) := hl w (by simp)
    have hr : ∀ t ∈ rest, P (spotT t) := fun t ht => hl t (by simp [ht])
    unfold lineL
    simp only []
    cases ht : tellL w rest e with
    | some q =>
      refine ⟨fun p h => ?_, fun s' h => by cases h⟩
      injection h with h
      subst h
      unfold tellL at ht
      split at ht
      · injection ht with ht; subst ht; exact hw
      · split at ht
        · rename_i hf
          injection ht with ht; subst ht
          exact form_spot _ _ _ _ hr he hf
        · exact range_spot _ _ _ _ hr ht
    | none =>
      have hlen : kindL w.2.2.2.2 = 7 → rest.length = 2 := by
        intro h7
        unfold tellL at ht
        rw [h7, if_neg (by decide)] at ht
        split at ht
        · cases ht
        · rename_i hf
          exact form_len _ _ _ hf
      cases ha : addL (kindL w.2.2.2.2) w rest s with
      | none => exact ⟨fun p h => by injection h with h; subst h; exact hw, fun s' h => by cases h⟩
      | some s1 =>
        refine ⟨fun p h => (by cases h), fun s' h => ?_⟩
        injection h with h
        subst h
        unfold addL at ha
        by_cases h5 : kindL w.2.2.2.2 = 5
        · rw [if_pos h5] at ha
          split at ha
          · injection ha with ha; subst ha; exact hk
          · cases ha
        rw [if_neg h5] at ha
        by_cases h6 : kindL w.2.2.2.2 = 6
        · rw [if_pos h6] at ha
          split at ha
          · injection ha with ha; subst ha; exact hk
          · cases ha
        rw [if_neg h6] at ha
        by_cases h7 : kindL w.2.2.2.2 = 7
        · rw [if_pos h7] at ha
          split at ha
          · injection ha with ha
            subst ha
            intro k hk'
            rcases List.mem_append.1 hk' with hk' | hk'
            · exact hk k hk'
            · rw [List.mem_singleton] at hk'
              subst hk'
              refine ⟨hw, ?_⟩
              have h2 := hlen h7
              have : rest[0]! ∈ rest := by
                rw [getElem!_pos rest 0 (by omega)]; exact List.getElem_mem _
              exact hr _ this
          · cases ha
        rw [if_neg h7] at ha
        by_cases h4 : kindL w.2.2.2.2 = 4
        · rw [if_pos h4] at ha
          split at ha
          · injection ha with ha; subst ha; exact hk
          · cases ha
        rw [if_neg h4] at ha
        split at ha
        · injection ha with ha; subst ha; exact hk
        · cases ha
theorem linesD_spot {P : Int × Int → Prop} (e : Int × Int) (he : P e) : ∀ (f : Nat) (r : List T) (s : St), (∀ t ∈ r, P (spotT t)) → (∀ k ∈ s.kills, P k.word ∧ P k.first) →
    (∀ p, linesD e f r s = .error p → P p) ∧ (∀ s', linesD e f r s = .ok s' → ∀ k ∈ s'.kills, P k.word ∧ P k.first)
  | 0, r, s, hl, hk => ⟨fun p h => by simp [linesD] at h, fun s' h => by simp [linesD] at h; subst h; exact hk⟩
  | f + 1, r, s, hl, hk => by
    unfold linesD
    by_cases hr : r = []
    · rw [if_pos hr]; exact ⟨fun p h => (by cases h), fun s' h => by injection h with h; subst h; exact hk⟩
    · rw [if_neg hr]
      have hst : P (if Tok.lineLen r < r.length then spotT (r[Tok.lineLen r]!) else e) := by
        split
        · rename_i hlt
          rw [getElem!_pos r _ hlt]
          exact hl _ (List.getElem_mem _)
        · exact he
      have h1 := line_spot (r.take (Tok.lineLen r)) _ s (fun t ht => hl t (List.mem_of_mem_take ht)) hst hk
      cases hc : lineL (r.take (Tok.lineLen r)) (if Tok.lineLen r < r.length then spotT (r[Tok.lineLen r]!) else e) s with
      | error q => exact ⟨fun p h => by injection h with h; subst h; exact h1.1 _ hc, fun s' h => by cases h⟩
      | ok s1 => exact linesD_spot e he f (r.drop (Tok.lineLen r + 1)) s1 (fun t ht => hl t (List.mem_of_mem_drop ht)) (h1.2 s1 hc)
theorem kills_spot {P : Int × Int → Prop} (S : List Seat) : ∀ (ks : List Kill) (acc : List Int) (p : Int × Int), (∀ k ∈ ks, P k.word ∧ P k.first) → killsL S ks acc = .error p → P p
  | [], acc, p, _, h => by simp [killsL] at h
  | k :: r, acc, p, hk, h => by
    unfold killsL at h
    split at h
    · injection h with h; subst h; exact (hk k (by simp)).2
    · split at h
      · injection h with h; subst h; exact (hk k (by simp)).1
      · exact kills_spot S r _ p (fun x hx => hk x (by simp [hx])) h
theorem code02 : ∀ (n : Nat) (l : List UInt8) (li co : Int), l.length ≤ n → (Tok.allP l li co).2.2.2 = 0 ∨ (Tok.allP l li co).2.2.2 = 2 := by
  intro n
  induction n with
  | zero =>
    intro l li co hl
    rcases Tok.allP_cases l li co with ⟨_, h⟩ | ⟨_, _, _, _, _, _, h⟩ | ⟨_, gk, gn, gt, gs, _, h1, h2, _, h⟩
    · rw [h]; exact .inl rfl
    · rw [h]; exact .inr rfl
    · omega
  | succ n ih =>
    intro l li co hl
    rcases Tok.allP_cases l li co with ⟨_, h⟩ | ⟨_, _, _, _, _, _, h⟩ | ⟨_, gk, gn, gt, gs, _, h1, h2, _, h⟩
    · rw [h]; exact .inl rfl
    · rw [h]; exact .inr rfl
    · rw [h]
      exact ih _ _ _ (by rw [List.length_drop]; omega)
/-- What a text within the bound that is read wrongly has: code 2, a place of its own. -/
theorem readL_spot {l : List UInt8} (hl : ¬ 1048576 < l.length) {p : Int × Int × Int} (h : readL l = .error p) : p.1 = 2 ∧ InT l.length p.2 := by
  rw [readL_scan hl] at h
  have hs := allP_spots l.length l 1 1 (Nat.le_refl _) (by omega) (by omega)
  have hc := code02 l.length l 1 1 (Nat.le_refl _)
  unfold scan at h
  generalize Tok.allP l 1 1 = A at h hs hc
  obtain ⟨ts, li, co, code⟩ := A
  simp only at h hs hc
  have he : InT l.length (li, co) := ⟨hs.2.1, by have := hs.2.2.1; omega, hs.2.2.2.1, by have := hs.2.2.2.2; omega⟩
  have ht : ∀ t ∈ ts, InT l.length (spotT t) := fun t ht => by
    obtain ⟨a, b, c, d⟩ := hs.1 t ht
    exact ⟨a, by show t.2.2.1 ≤ _; omega, c, by show t.2.2.2.1 ≤ _; omega⟩
  split at h
  · rename_i h0
    unfold linesE at h
    have hd := linesD_spot (P := InT l.length) (li, co) he (ts.length + 1) ts St.zero ht (fun k hk => by cases hk)
    cases hq : linesD (li, co) (ts.length + 1) ts St.zero with
    | error q =>
      rw [hq] at h
      injection h with h
      subst h
      exact ⟨rfl, hd.1 q hq⟩
    | ok s =>
      rw [hq] at h
      simp only at h
      unfold wholeL at h
      split at h
      · rename_i hw
        injection h with h
        subst h
        refine ⟨rfl, ?_⟩
        split at hw
        · injection hw with hw; subst hw; exact he
        · split at hw
          · rename_i hkl
            injection hw with hw; subst hw
            exact kills_spot _ _ _ _ (hd.2 s hq) hkl
          · cases hw
      · cases h
  · rename_i h0
    injection h with h
    subst h
    exact ⟨by show code = 2; omega, he⟩
end Go.Proofs.YtdffleaokccgmaaGreatDoor.Par

namespace Go.Proofs.YtdffleaokccgmaaGreatDoor.Par
set_option linter.unusedVariables false
set_option maxRecDepth 100000
open Go.ChangeShapes Go.WideShapes Go.RowKit

/-- The listed variables of every row of this seat. -/
def laidAll : List (String × DataW Unit) := [("math/bits.deBruijn32tab", Rows.laid_math_bits_deBruijn32tab), ("math/bits.deBruijn64tab", Rows.laid_math_bits_deBruijn64tab), ("internal/strconv.uint64pow10", Rows.laid_internal_strconv_uint64pow10), ("errors.errorType", Rows.laid_errors_errorType), ("strconv.ErrRange", Rows.laid_strconv_ErrRange), ("strconv.ErrSyntax", Rows.laid_strconv_ErrSyntax)]
def laidPlain : List (String × DataW Unit) := [("math/bits.deBruijn32tab", Rows.laid_math_bits_deBruijn32tab), ("math/bits.deBruijn64tab", Rows.laid_math_bits_deBruijn64tab), ("internal/strconv.uint64pow10", Rows.laid_internal_strconv_uint64pow10), ("strconv.ErrRange", Rows.laid_strconv_ErrRange), ("strconv.ErrSyntax", Rows.laid_strconv_ErrSyntax)]

theorem ownKnob_none : ownKnob Tryz.prog.godebug = none := by kernel_rfl
theorem etNamed : Tryz.prog.globalNamed "errors.errorType" = some 0 := by kernel_rfl
theorem rtIs : (Tryz.prog.cutTypes.find? (·.1 == "internal/reflectlite.rtype")).map (·.2) = some 164 := by kernel_rfl
theorem oneRow : ((List.range 269).filter fun t => Tryz.prog.rowNamed t [101, 114, 114, 111, 114]) = [35] := by kernel_rfl
theorem typesSize : Tryz.prog.types.size = 269 := by kernel_rfl
theorem et_of_laid {W : World} (h : laidMetH Tryz.prog laidAll W) : Flt.Et W := by
  have h' : laidMet Tryz.prog laidPlain W ∧ handlesMet Tryz.prog [("errors.errorType", Rows.laid_errors_errorType)] W := h
  obtain ⟨name, u, ty, e1, e2, e3, e4, e5⟩ := h'.2 _ (List.mem_singleton.2 rfl)
  have en : name = [101, 114, 114, 111, 114] := (Option.some.inj e1).symm
  subst en
  obtain rfl := Option.some.inj (rtIs.symm.trans e2)
  have hm : ty ∈ (List.range 269).filter fun t => Tryz.prog.rowNamed t [101, 114, 114, 111, 114] := List.mem_filter.2 ⟨List.mem_range.2 (by rw [← typesSize]; exact e3), e4⟩
  rw [oneRow] at hm
  obtain rfl := List.mem_singleton.1 hm
  have hh : typeHandle Tryz.prog 35 = .pointer (some ⟨6, 35, none⟩) := by kernel_rfl
  rw [hh] at e5
  have h0 := World.var?_cell etNamed e5 0
  unfold Flt.Et
  simpa using h0
theorem rngNamed : Tryz.prog.globalNamed "strconv.ErrRange" = some 2 := by kernel_rfl
theorem rngType : (Tryz.prog.globals[2]?).map (·.type) = some 35 := by kernel_rfl
theorem star : "*" ++ "errors.errorString" = "*errors.errorString" := by decide
theorem rowErr (u : TypeId) (h : Tryz.prog.typeName? 3 u = some "*errors.errorString") : u = 228 :=
  typeName_ptr_named (nm := "errors.errorString") (by rw [star]; kernel_rfl) (by kernel_rfl) (by decide) u (by rw [star]; exact h)
theorem cellsErr : Tryz.prog.cellsOf 230 = 1 := by kernel_rfl
theorem cellsStr : Tryz.prog.cellsOf 9 = 1 := by kernel_rfl
theorem rng_of_laid {W : World} (h : laidMetH Tryz.prog laidAll W) : Tok.Rng W := by
  have h2 : laidMet Tryz.prog laidPlain W ∧ handlesMet Tryz.prog [("errors.errorType", Rows.laid_errors_errorType)] W := h
  have h' := h2.1
  obtain ⟨a1, s1, hv1, -, -, -⟩ := laid_sentinel h'.tail.tail.tail rngNamed rngType Tryz.underlying35 rowErr Tryz.underlying228 Tryz.underlying230 rfl rfl Tryz.underlying9 cellsErr cellsStr
  exact ⟨_, _, by have h0 := World.var?_cell rngNamed hv1 0; simpa using h0⟩
theorem has_of_laid {W : World} (h : laidMetH Tryz.prog laidAll W) : Has0 W := ⟨rng_of_laid h, et_of_laid h⟩
theorem door_met (os : Os) (args : Array Value) : laidMetH Tryz.prog laidAll ((World.doorLaid Tryz.prog 400 os).forCall (fun _ _ => 0) ⟨#[], args, []⟩).memory :=
  laidMetH_of_parts3 (fuel := 8) (laidMet_of_run' 8 (by kernel_rfl) (by kernel_rfl)) (by kernel_rfl) (by kernel_rfl)
end Go.Proofs.YtdffleaokccgmaaGreatDoor.Par

namespace Go.Proofs.YtdffleaokccgmaaGreatDoor.Par
set_option linter.unusedVariables false
set_option maxRecDepth 100000
open Go.Proofs.YtdffleaokccgmaaGreatDoor.Ven (Seat Pole Ven)

def firstB : List UInt8 := [103, 97, 112, 32, 49, 48, 10, 115, 101, 97, 116, 32, 48, 32, 48, 32, 48, 10]
def firstP (w : Nat) : List UInt8 := match w with
  | 0 => [99, 104, 97, 105, 114, 32, 49, 32, 49, 32, 49]
  | 1 => [103, 97, 112, 32, 49, 48]
  | 2 => [115, 101, 97, 116, 32, 48, 32, 48, 32, 48]
  | 3 => [115, 101, 97, 116, 32, 49]
  | 4 => [115, 101, 97, 116, 32, 49, 32, 120, 32, 50]
  | 5 => [115, 101, 97, 116, 32, 49, 32, 49, 32, 49, 32, 49]
  | 6 => [115, 101, 97, 116, 32, 45, 49, 32, 48, 32, 48]
  | 7 => [114, 97, 100, 105, 117, 115, 32, 48, 32, 48]
  | 8 => [112, 111, 108, 101, 32, 49, 32, 49, 32, 48]
  | _ => [53]
def firstC (w : Nat) : Int := match w with
  | 0 => 1
  | 1 => 1
  | 2 => 1
  | 3 => 7
  | 4 => 8
  | 5 => 12
  | 6 => 6
  | 7 => 10
  | 8 => 10
  | _ => 1
def digB (i : Nat) : List UInt8 := [UInt8.ofNat (48 + i)]
/-- So many well lines. -/
def aheadB : Nat → List UInt8
  | 0 => []
  | k + 1 => aheadB k ++ ([115, 101, 97, 116, 32, 50, 32] ++ digB (k % 10) ++ [32, 48, 10])
def behindB : Nat → List UInt8
  | 0 => []
  | k + 1 => behindB k ++ ([115, 101, 97, 116, 32, 51, 32] ++ digB k ++ [32, 48, 10, 113, 10])
def firstT (k m w : Nat) : List UInt8 := firstB ++ aheadB k ++ firstP w ++ [10] ++ behindB m
theorem tk_gap (li : Int) : Tok.allP ([103, 97, 112, 32, 49, 48] ++ [10]) li 1 = ([(1, 0, li, 1, [103, 97, 112]), (2, 10, li, 5, [49, 48])] ++ [(3, 0, li, 7, [])], li + 1, 1, 0) := by kernel_rfl
theorem tk_seat (li : Int) : Tok.allP ([115, 101, 97, 116, 32, 48, 32, 48, 32, 48] ++ [10]) li 1 = ([(1, 0, li, 1, [115, 101, 97, 116]), (2, 0, li, 6, [48]), (2, 0, li, 8, [48]), (2, 0, li, 10, [48])] ++ [(3, 0, li, 11, [])], li + 1, 1, 0) := by kernel_rfl
theorem tk_a0 (li : Int) : Tok.allP ([115, 101, 97, 116, 32, 50, 32, 48, 32, 48] ++ [10]) li 1 = ([(1, 0, li, 1, [115, 101, 97, 116]), (2, 2, li, 6, [50]), (2, 0, li, 8, [48]), (2, 0, li, 10, [48])] ++ [(3, 0, li, 11, [])], li + 1, 1, 0) := by kernel_rfl
theorem tk_a1 (li : Int) : Tok.allP ([115, 101, 97, 116, 32, 50, 32, 49, 32, 48] ++ [10]) li 1 = ([(1, 0, li, 1, [115, 101, 97, 116]), (2, 2, li, 6, [50]), (2, 1, li, 8, [49]), (2, 0, li, 10, [48])] ++ [(3, 0, li, 11, [])], li + 1, 1, 0) := by kernel_rfl
theorem tk_a2 (li : Int) : Tok.allP ([115, 101, 97, 116, 32, 50, 32, 50, 32, 48] ++ [10]) li 1 = ([(1, 0, li, 1, [115, 101, 97, 116]), (2, 2, li, 6, [50]), (2, 2, li, 8, [50]), (2, 0, li, 10, [48])] ++ [(3, 0, li, 11, [])], li + 1, 1, 0) := by kernel_rfl
theorem tk_a3 (li : Int) : Tok.allP ([115, 101, 97, 116, 32, 50, 32, 51, 32, 48] ++ [10]) li 1 = ([(1, 0, li, 1, [115, 101, 97, 116]), (2, 2, li, 6, [50]), (2, 3, li, 8, [51]), (2, 0, li, 10, [48])] ++ [(3, 0, li, 11, [])], li + 1, 1, 0) := by kernel_rfl
theorem tk_a4 (li : Int) : Tok.allP ([115, 101, 97, 116, 32, 50, 32, 52, 32, 48] ++ [10]) li 1 = ([(1, 0, li, 1, [115, 101, 97, 116]), (2, 2, li, 6, [50]), (2, 4, li, 8, [52]), (2, 0, li, 10, [48])] ++ [(3, 0, li, 11, [])], li + 1, 1, 0) := by kernel_rfl
theorem tk_a5 (li : Int) : Tok.allP ([115, 101, 97, 116, 32, 50, 32, 53, 32, 48] ++ [10]) li 1 = ([(1, 0, li, 1, [115, 101, 97, 116]), (2, 2, li, 6, [50]), (2, 5, li, 8, [53]), (2, 0, li, 10, [48])] ++ [(3, 0, li, 11, [])], li + 1, 1, 0) := by kernel_rfl
theorem tk_a6 (li : Int) : Tok.allP ([115, 101, 97, 116, 32, 50, 32, 54, 32, 48] ++ [10]) li 1 = ([(1, 0, li, 1, [115, 101, 97, 116]), (2, 2, li, 6, [50]), (2, 6, li, 8, [54]), (2, 0, li, 10, [48])] ++ [(3, 0, li, 11, [])], li + 1, 1, 0) := by kernel_rfl
theorem tk_a7 (li : Int) : Tok.allP ([115, 101, 97, 116, 32, 50, 32, 55, 32, 48] ++ [10]) li 1 = ([(1, 0, li, 1, [115, 101, 97, 116]), (2, 2, li, 6, [50]), (2, 7, li, 8, [55]), (2, 0, li, 10, [48])] ++ [(3, 0, li, 11, [])], li + 1, 1, 0) := by kernel_rfl
theorem tk_a8 (li : Int) : Tok.allP ([115, 101, 97, 116, 32, 50, 32, 56, 32, 48] ++ [10]) li 1 = ([(1, 0, li, 1, [115, 101, 97, 116]), (2, 2, li, 6, [50]), (2, 8, li, 8, [56]), (2, 0, li, 10, [48])] ++ [(3, 0, li, 11, [])], li + 1, 1, 0) := by kernel_rfl
theorem tk_a9 (li : Int) : Tok.allP ([115, 101, 97, 116, 32, 50, 32, 57, 32, 48] ++ [10]) li 1 = ([(1, 0, li, 1, [115, 101, 97, 116]), (2, 2, li, 6, [50]), (2, 9, li, 8, [57]), (2, 0, li, 10, [48])] ++ [(3, 0, li, 11, [])], li + 1, 1, 0) := by kernel_rfl
theorem tk_b0 (li : Int) : Tok.allP ([99, 104, 97, 105, 114, 32, 49, 32, 49, 32, 49] ++ [10]) li 1 = ([(1, 0, li, 1, [99, 104, 97, 105, 114]), (2, 1, li, 7, [49]), (2, 1, li, 9, [49]), (2, 1, li, 11, [49])] ++ [(3, 0, li, 12, [])], li + 1, 1, 0) := by kernel_rfl
theorem tk_b1 (li : Int) : Tok.allP ([103, 97, 112, 32, 49, 48] ++ [10]) li 1 = ([(1, 0, li, 1, [103, 97, 112]), (2, 10, li, 5, [49, 48])] ++ [(3, 0, li, 7, [])], li + 1, 1, 0) := by kernel_rfl
theorem tk_b2 (li : Int) : Tok.allP ([115, 101, 97, 116, 32, 48, 32, 48, 32, 48] ++ [10]) li 1 = ([(1, 0, li, 1, [115, 101, 97, 116]), (2, 0, li, 6, [48]), (2, 0, li, 8, [48]), (2, 0, li, 10, [48])] ++ [(3, 0, li, 11, [])], li + 1, 1, 0) := by kernel_rfl
theorem tk_b3 (li : Int) : Tok.allP ([115, 101, 97, 116, 32, 49] ++ [10]) li 1 = ([(1, 0, li, 1, [115, 101, 97, 116]), (2, 1, li, 6, [49])] ++ [(3, 0, li, 7, [])], li + 1, 1, 0) := by kernel_rfl
theorem tk_b4 (li : Int) : Tok.allP ([115, 101, 97, 116, 32, 49, 32, 120, 32, 50] ++ [10]) li 1 = ([(1, 0, li, 1, [115, 101, 97, 116]), (2, 1, li, 6, [49]), (1, 0, li, 8, [120]), (2, 2, li, 10, [50])] ++ [(3, 0, li, 11, [])], li + 1, 1, 0) := by kernel_rfl
theorem tk_b5 (li : Int) : Tok.allP ([115, 101, 97, 116, 32, 49, 32, 49, 32, 49, 32, 49] ++ [10]) li 1 = ([(1, 0, li, 1, [115, 101, 97, 116]), (2, 1, li, 6, [49]), (2, 1, li, 8, [49]), (2, 1, li, 10, [49]), (2, 1, li, 12, [49])] ++ [(3, 0, li, 13, [])], li + 1, 1, 0) := by kernel_rfl
theorem tk_b6 (li : Int) : Tok.allP ([115, 101, 97, 116, 32, 45, 49, 32, 48, 32, 48] ++ [10]) li 1 = ([(1, 0, li, 1, [115, 101, 97, 116]), (2, -1, li, 6, [45, 49]), (2, 0, li, 9, [48]), (2, 0, li, 11, [48])] ++ [(3, 0, li, 12, [])], li + 1, 1, 0) := by kernel_rfl
theorem tk_b7 (li : Int) : Tok.allP ([114, 97, 100, 105, 117, 115, 32, 48, 32, 48] ++ [10]) li 1 = ([(1, 0, li, 1, [114, 97, 100, 105, 117, 115]), (2, 0, li, 8, [48]), (2, 0, li, 10, [48])] ++ [(3, 0, li, 11, [])], li + 1, 1, 0) := by kernel_rfl
theorem tk_b8 (li : Int) : Tok.allP ([112, 111, 108, 101, 32, 49, 32, 49, 32, 48] ++ [10]) li 1 = ([(1, 0, li, 1, [112, 111, 108, 101]), (2, 1, li, 6, [49]), (2, 1, li, 8, [49]), (2, 0, li, 10, [48])] ++ [(3, 0, li, 11, [])], li + 1, 1, 0) := by kernel_rfl
theorem tk_b9 (li : Int) : Tok.allP ([53] ++ [10]) li 1 = ([(2, 5, li, 1, [53])] ++ [(3, 0, li, 2, [])], li + 1, 1, 0) := by kernel_rfl
theorem tk_m0 (li : Int) : (Tok.allP (behindB 0) li 1).2.2.2 = 0 := by kernel_rfl
theorem tk_m1 (li : Int) : (Tok.allP (behindB 1) li 1).2.2.2 = 0 := by kernel_rfl
theorem tk_m2 (li : Int) : (Tok.allP (behindB 2) li 1).2.2.2 = 0 := by kernel_rfl
theorem tk_m3 (li : Int) : (Tok.allP (behindB 3) li 1).2.2.2 = 0 := by kernel_rfl
theorem tk_m4 (li : Int) : (Tok.allP (behindB 4) li 1).2.2.2 = 0 := by kernel_rfl
theorem tk_m5 (li : Int) : (Tok.allP (behindB 5) li 1).2.2.2 = 0 := by kernel_rfl
def stF (k : Nat) : St := ⟨⟨0, 0, 0, 0⟩ :: (List.range k).map (fun i : Nat => (⟨2, (i : Int), 0, 0⟩ : Seat)), 10, 0, false, [], []⟩
theorem step_line {v y : List UInt8} {li : Int} {u : List T} {t : T} {s s' : St} (hA : Tok.allP (v ++ [10]) li 1 = (u ++ [t], li + 1, 1, 0)) (hu : ∀ x ∈ u, Tok.endB x = false) (ht : Tok.endB t = true) (hl : lineL u (spotT t) s = .ok s') : scan (v ++ 10 :: y) li s = scan y (li + 1) s' := by
  rw [scan_line v y li (li + 1) u t s hA hu ht, hl]
theorem bad_line {v y : List UInt8} {li : Int} {u : List T} {t : T} {s : St} {p : Int × Int} (hA : Tok.allP (v ++ [10]) li 1 = (u ++ [t], li + 1, 1, 0)) (hu : ∀ x ∈ u, Tok.endB x = false) (ht : Tok.endB t = true) (hl : lineL u (spotT t) s = .error p) : scan (v ++ 10 :: y) li s = ((Tok.allP y (li + 1) 1).2, .error p) := by
  rw [scan_line v y li (li + 1) u t s hA hu ht, hl]
theorem first_head (y : List UInt8) : scan (firstB ++ y) 1 St.zero = scan y 3 (stF 0) := by
  have e : firstB ++ y = [103, 97, 112, 32, 49, 48] ++ 10 :: ([115, 101, 97, 116, 32, 48, 32, 48, 32, 48] ++ 10 :: y) := rfl
  rw [e, step_line (s' := ⟨[], 10, 0, false, [], []⟩) (tk_gap 1) (by simp [Tok.endB]) rfl (by kernel_rfl), step_line (s' := stF 0) (tk_seat (1 + 1)) (by simp [Tok.endB]) rfl (by kernel_rfl)]
  rfl
theorem first_ahead : ∀ (k : Nat), k ≤ 10 → ∀ y, scan (firstB ++ (aheadB k ++ y)) 1 St.zero = scan y ((k : Int) + 3) (stF k)
  | 0, _, y => first_head y
  | k + 1, hk, y => by
    have e : firstB ++ (aheadB (k + 1) ++ y) = firstB ++ (aheadB k ++ ([115, 101, 97, 116, 32, 50, 32] ++ digB (k % 10) ++ [32, 48, 10] ++ y)) := by
      simp only [aheadB, List.append_assoc]
    rw [e, first_ahead k (by omega)]
    have hk' : k < 10 := by omega
    have hc : k = 0 ∨ k = 1 ∨ k = 2 ∨ k = 3 ∨ k = 4 ∨ k = 5 ∨ k = 6 ∨ k = 7 ∨ k = 8 ∨ k = 9 := by omega
    clear e hk hk'
    rcases hc with rfl | rfl | rfl | rfl | rfl | rfl | rfl | rfl | rfl | rfl
    · exact step_line (v := [115, 101, 97, 116, 32, 50, 32, 48, 32, 48]) (s' := stF 1) (tk_a0 3) (by simp [Tok.endB]) rfl (by kernel_rfl)
    · exact step_line (v := [115, 101, 97, 116, 32, 50, 32, 49, 32, 48]) (s' := stF 2) (tk_a1 4) (by simp [Tok.endB]) rfl (by kernel_rfl)
    · exact step_line (v := [115, 101, 97, 116, 32, 50, 32, 50, 32, 48]) (s' := stF 3) (tk_a2 5) (by simp [Tok.endB]) rfl (by kernel_rfl)
    · exact step_line (v := [115, 101, 97, 116, 32, 50, 32, 51, 32, 48]) (s' := stF 4) (tk_a3 6) (by simp [Tok.endB]) rfl (by kernel_rfl)
    · exact step_line (v := [115, 101, 97, 116, 32, 50, 32, 52, 32, 48]) (s' := stF 5) (tk_a4 7) (by simp [Tok.endB]) rfl (by kernel_rfl)
    · exact step_line (v := [115, 101, 97, 116, 32, 50, 32, 53, 32, 48]) (s' := stF 6) (tk_a5 8) (by simp [Tok.endB]) rfl (by kernel_rfl)
    · exact step_line (v := [115, 101, 97, 116, 32, 50, 32, 54, 32, 48]) (s' := stF 7) (tk_a6 9) (by simp [Tok.endB]) rfl (by kernel_rfl)
    · exact step_line (v := [115, 101, 97, 116, 32, 50, 32, 55, 32, 48]) (s' := stF 8) (tk_a7 10) (by simp [Tok.endB]) rfl (by kernel_rfl)
    · exact step_line (v := [115, 101, 97, 116, 32, 50, 32, 56, 32, 48]) (s' := stF 9) (tk_a8 11) (by simp [Tok.endB]) rfl (by kernel_rfl)
    · exact step_line (v := [115, 101, 97, 116, 32, 50, 32, 57, 32, 48]) (s' := stF 10) (tk_a9 12) (by simp [Tok.endB]) rfl (by kernel_rfl)
theorem first_bad (k w : Nat) (hk : k < 11) (hw : w < 10) (y : List UInt8) : scan (firstP w ++ 10 :: y) ((k : Int) + 3) (stF k) = ((Tok.allP y ((k : Int) + 3 + 1) 1).2, .error ((k : Int) + 3, firstC w)) := by
  have hc : k = 0 ∨ k = 1 ∨ k = 2 ∨ k = 3 ∨ k = 4 ∨ k = 5 ∨ k = 6 ∨ k = 7 ∨ k = 8 ∨ k = 9 ∨ k = 10 := by omega
  have hv : w = 0 ∨ w = 1 ∨ w = 2 ∨ w = 3 ∨ w = 4 ∨ w = 5 ∨ w = 6 ∨ w = 7 ∨ w = 8 ∨ w = 9 := by omega
  clear hk hw
  rcases hv with rfl | rfl | rfl | rfl | rfl | rfl | rfl | rfl | rfl | rfl
  · rcases hc with rfl | rfl | rfl | rfl | rfl | rfl | rfl | rfl | rfl | rfl | rfl <;> exact bad_line (v := [99, 104, 97, 105, 114, 32, 49, 32, 49, 32, 49]) (tk_b0 _) (by simp [Tok.endB]) rfl (by kernel_rfl)
  · rcases hc with rfl | rfl | rfl | rfl | rfl | rfl | rfl | rfl | rfl | rfl | rfl <;> exact bad_line (v := [103, 97, 112, 32, 49, 48]) (tk_b1 _) (by simp [Tok.endB]) rfl (by kernel_rfl)
  · rcases hc with rfl | rfl | rfl | rfl | rfl | rfl | rfl | rfl | rfl | rfl | rfl <;> exact bad_line (v := [115, 101, 97, 116, 32, 48, 32, 48, 32, 48]) (tk_b2 _) (by simp [Tok.endB]) rfl (by kernel_rfl)
  · rcases hc with rfl | rfl | rfl | rfl | rfl | rfl | rfl | rfl | rfl | rfl | rfl <;> exact bad_line (v := [115, 101, 97, 116, 32, 49]) (tk_b3 _) (by simp [Tok.endB]) rfl (by kernel_rfl)
  · rcases hc with rfl | rfl | rfl | rfl | rfl | rfl | rfl | rfl | rfl | rfl | rfl <;> exact bad_line (v := [115, 101, 97, 116, 32, 49, 32, 120, 32, 50]) (tk_b4 _) (by simp [Tok.endB]) rfl (by kernel_rfl)
  · rcases hc with rfl | rfl | rfl | rfl | rfl | rfl | rfl | rfl | rfl | rfl | rfl <;> exact bad_line (v := [115, 101, 97, 116, 32, 49, 32, 49, 32, 49, 32, 49]) (tk_b5 _) (by simp [Tok.endB]) rfl (by kernel_rfl)
  · rcases hc with rfl | rfl | rfl | rfl | rfl | rfl | rfl | rfl | rfl | rfl | rfl <;> exact bad_line (v := [115, 101, 97, 116, 32, 45, 49, 32, 48, 32, 48]) (tk_b6 _) (by simp [Tok.endB]) rfl (by kernel_rfl)
  · rcases hc with rfl | rfl | rfl | rfl | rfl | rfl | rfl | rfl | rfl | rfl | rfl <;> exact bad_line (v := [114, 97, 100, 105, 117, 115, 32, 48, 32, 48]) (tk_b7 _) (by simp [Tok.endB]) rfl (by kernel_rfl)
  · rcases hc with rfl | rfl | rfl | rfl | rfl | rfl | rfl | rfl | rfl | rfl | rfl <;> exact bad_line (v := [112, 111, 108, 101, 32, 49, 32, 49, 32, 48]) (tk_b8 _) (by simp [Tok.endB]) rfl (by kernel_rfl)
  · rcases hc with rfl | rfl | rfl | rfl | rfl | rfl | rfl | rfl | rfl | rfl | rfl <;> exact bad_line (v := [53]) (tk_b9 _) (by simp [Tok.endB]) rfl (by kernel_rfl)
theorem first_read (k m w : Nat) (hk : k < 11) (hm : m < 6) (hw : w < 10) : codeOf (readL (firstT k m w)) = (2, (k : Int) + 3, firstC w) := by
  have e : firstT k m w = firstB ++ (aheadB k ++ (firstP w ++ 10 :: behindB m)) := by unfold firstT; simp
  have hs : scan (firstT k m w) 1 St.zero = ((Tok.allP (behindB m) ((k : Int) + 3 + 1) 1).2, .error ((k : Int) + 3, firstC w)) := by
    rw [e, first_ahead k (by omega), first_bad k w hk hw]
  have hcode : (Tok.allP (behindB m) ((k : Int) + 3 + 1) 1).2.2.2 = 0 := by
    have hc : m = 0 ∨ m = 1 ∨ m = 2 ∨ m = 3 ∨ m = 4 ∨ m = 5 := by omega
    rcases hc with rfl | rfl | rfl | rfl | rfl | rfl
    · exact tk_m0 _
    · exact tk_m1 _
    · exact tk_m2 _
    · exact tk_m3 _
    · exact tk_m4 _
    · exact tk_m5 _
  have hl : (firstT k m w).length ≤ 1048576 := by
    have ha : ∀ n, (aheadB n).length = n * 11 := fun n => by
      induction n with
      | zero => rfl
      | succ n ih => unfold aheadB; simp [ih, digB]; omega
    have hb : ∀ n, (behindB n).length = n * 13 := fun n => by
      induction n with
      | zero => rfl
      | succ n ih => unfold behindB; simp [ih, digB]; omega
    have hp : (firstP w).length ≤ 12 := by
      have hv : w = 0 ∨ w = 1 ∨ w = 2 ∨ w = 3 ∨ w = 4 ∨ w = 5 ∨ w = 6 ∨ w = 7 ∨ w = 8 ∨ w = 9 := by omega
      rcases hv with rfl | rfl | rfl | rfl | rfl | rfl | rfl | rfl | rfl | rfl <;> decide
    unfold firstT
    simp only [List.length_append, ha, hb]
    have : firstB.length = 18 := rfl
    simp; omega
  rw [readL_scan (by omega), hs]
  simp only []
  rw [if_pos hcode]
  rfl
end Go.Proofs.YtdffleaokccgmaaGreatDoor.Par

namespace Go.Proofs.YtdffleaokccgmaaGreatDoor.Par
set_option linter.unusedVariables false
set_option maxRecDepth 100000
open Go.Proofs.YtdffleaokccgmaaGreatDoor.Ven (Seat Pole Ven IsOrder normU order_unique rising_order ltS)
open Go.Proofs.YtdffleaokccgmaaGreatDoor.Prs (atI)

/-- The text of a kill, its number below four. -/
def killB (k : Nat) : List UInt8 := match k with
  | 0 => [107, 105, 108, 108, 32, 48, 32, 48, 10]
  | 1 => [107, 105, 108, 108, 32, 48, 32, 49, 48, 10]
  | 2 => [107, 105, 108, 108, 32, 48, 32, 50, 48, 10]
  | _ => [107, 105, 108, 108, 32, 48, 32, 51, 48, 10]
def killsB (ks : List Nat) : List UInt8 := ks.flatMap killB
def gapB : List UInt8 := [103, 97, 112, 32, 49, 10]
def threeB : List UInt8 := [115, 101, 97, 116, 32, 48, 32, 48, 32, 48, 10, 115, 101, 97, 116, 32, 48, 32, 49, 48, 32, 48, 10, 115, 101, 97, 116, 32, 48, 32, 50, 48, 32, 48, 10]
def three : List Seat := [⟨0, 0, 0, 0⟩, ⟨0, 10, 0, 0⟩, ⟨0, 20, 0, 0⟩]
theorem tk_g (li : Int) : Tok.allP ([103, 97, 112, 32, 49] ++ [10]) li 1 = ([(1, 0, li, 1, [103, 97, 112]), (2, 1, li, 5, [49])] ++ [(3, 0, li, 6, [])], li + 1, 1, 0) := by kernel_rfl
theorem tk_s0 (li : Int) : Tok.allP ([115, 101, 97, 116, 32, 48, 32, 48, 32, 48] ++ [10]) li 1 = ([(1, 0, li, 1, [115, 101, 97, 116]), (2, 0, li, 6, [48]), (2, 0, li, 8, [48]), (2, 0, li, 10, [48])] ++ [(3, 0, li, 11, [])], li + 1, 1, 0) := by kernel_rfl
theorem tk_s1 (li : Int) : Tok.allP ([115, 101, 97, 116, 32, 48, 32, 49, 48, 32, 48] ++ [10]) li 1 = ([(1, 0, li, 1, [115, 101, 97, 116]), (2, 0, li, 6, [48]), (2, 10, li, 8, [49, 48]), (2, 0, li, 11, [48])] ++ [(3, 0, li, 12, [])], li + 1, 1, 0) := by kernel_rfl
theorem tk_s2 (li : Int) : Tok.allP ([115, 101, 97, 116, 32, 48, 32, 50, 48, 32, 48] ++ [10]) li 1 = ([(1, 0, li, 1, [115, 101, 97, 116]), (2, 0, li, 6, [48]), (2, 20, li, 8, [50, 48]), (2, 0, li, 11, [48])] ++ [(3, 0, li, 12, [])], li + 1, 1, 0) := by kernel_rfl
theorem tk_k0 (li : Int) : Tok.allP ([107, 105, 108, 108, 32, 48, 32, 48] ++ [10]) li 1 = ([(1, 0, li, 1, [107, 105, 108, 108]), (2, 0, li, 6, [48]), (2, 0, li, 8, [48])] ++ [(3, 0, li, 9, [])], li + 1, 1, 0) := by kernel_rfl
theorem tk_k1 (li : Int) : Tok.allP ([107, 105, 108, 108, 32, 48, 32, 49, 48] ++ [10]) li 1 = ([(1, 0, li, 1, [107, 105, 108, 108]), (2, 0, li, 6, [48]), (2, 10, li, 8, [49, 48])] ++ [(3, 0, li, 10, [])], li + 1, 1, 0) := by kernel_rfl
theorem tk_k2 (li : Int) : Tok.allP ([107, 105, 108, 108, 32, 48, 32, 50, 48] ++ [10]) li 1 = ([(1, 0, li, 1, [107, 105, 108, 108]), (2, 0, li, 6, [48]), (2, 20, li, 8, [50, 48])] ++ [(3, 0, li, 10, [])], li + 1, 1, 0) := by kernel_rfl
theorem tk_k3 (li : Int) : Tok.allP ([107, 105, 108, 108, 32, 48, 32, 51, 48] ++ [10]) li 1 = ([(1, 0, li, 1, [107, 105, 108, 108]), (2, 0, li, 6, [48]), (2, 30, li, 8, [51, 48])] ++ [(3, 0, li, 10, [])], li + 1, 1, 0) := by kernel_rfl
/-- The kills, told from a line on. -/
def killsAt (li : Int) : List Nat → List Kill
  | [] => []
  | k :: r => ⟨0, 10 * (if k < 3 then k else 3 : Nat), (li, 1), (li, 6)⟩ :: killsAt (li + 1) r
theorem killsAt_len : ∀ (ks : List Nat) (li : Int), (killsAt li ks).length = ks.length
  | [], _ => rfl
  | _ :: r, li => by unfold killsAt; rw [List.length_cons, List.length_cons, killsAt_len r]
theorem scan_gap (y : List UInt8) : scan (gapB ++ y) 1 St.zero = scan y 2 ⟨[], 1, 0, false, [], []⟩ := by
  have e : gapB ++ y = [103, 97, 112, 32, 49] ++ 10 :: y := rfl
  rw [e, step_line (s' := ⟨[], 1, 0, false, [], []⟩) (tk_g 1) (by simp [Tok.endB]) rfl (by kernel_rfl)]
  rfl
theorem scan_three (ks : List Kill) (li : Int) (y : List UInt8) : scan (threeB ++ y) li ⟨[], 1, 0, false, [], ks⟩ = scan y (li + 1 + 1 + 1) ⟨three, 1, 0, false, [], ks⟩ := by
  have e : threeB ++ y = [115, 101, 97, 116, 32, 48, 32, 48, 32, 48] ++ 10 :: ([115, 101, 97, 116, 32, 48, 32, 49, 48, 32, 48] ++ 10 :: ([115, 101, 97, 116, 32, 48, 32, 50, 48, 32, 48] ++ 10 :: y)) := rfl
  rw [e, step_line (s' := ⟨[⟨0, 0, 0, 0⟩], 1, 0, false, [], ks⟩) (tk_s0 li) (by simp [Tok.endB]) rfl (by rfl), step_line (s' := ⟨[⟨0, 0, 0, 0⟩, ⟨0, 10, 0, 0⟩], 1, 0, false, [], ks⟩) (tk_s1 (li + 1)) (by simp [Tok.endB]) rfl (by rfl), step_line (s' := ⟨three, 1, 0, false, [], ks⟩) (tk_s2 (li + 1 + 1)) (by simp [Tok.endB]) rfl (by rfl)]
theorem told_kill (x li : Int) (S : List Seat) (acc : List Kill) (hl : acc.length < 200) (tx : List UInt8) : addL 7 (1, 0, li, 1, [107, 105, 108, 108]) [(2, 0, li, 6, [48]), (2, x, li, 8, tx)] ⟨S, 1, 0, false, [], acc⟩ = some ⟨S, 1, 0, false, [], acc ++ [⟨0, x, (li, 1), (li, 6)⟩]⟩ := by
  unfold addL
  rw [if_neg (by decide), if_neg (by decide), if_pos rfl, if_pos hl]
  rfl
theorem line_kill (x li co : Int) (S : List Seat) (acc : List Kill) (hl : acc.length < 200) (tx : List UInt8) (hx : Prs.letsK 7 1 x = true) : lineL [(1, 0, li, 1, [107, 105, 108, 108]), (2, 0, li, 6, [48]), (2, x, li, 8, tx)] (li, co) ⟨S, 1, 0, false, [], acc⟩ = .ok ⟨S, 1, 0, false, [], acc ++ [⟨0, x, (li, 1), (li, 6)⟩]⟩ := by
  have ht : tellL (1, 0, li, 1, [107, 105, 108, 108]) [(2, 0, li, 6, [48]), (2, x, li, 8, tx)] (li, co) = none := by
    unfold tellL
    have hk : Prs.kindL [107, 105, 108, 108] = 7 := by rfl
    simp only [hk]
    rw [if_neg (by decide)]
    have hf : formL (numK 7) [(2, 0, li, 6, [48]), (2, x, li, 8, tx)] (li, co) = none := by rfl
    rw [hf]
    simp only [rangeL]
    rw [if_pos (by rfl), if_pos (by exact hx)]
  have hk : Prs.kindL [107, 105, 108, 108] = 7 := by rfl
  unfold lineL
  simp only [ht, hk, told_kill x li S acc hl tx]
theorem scan_kills : ∀ (ks : List Nat) (li : Int) (S : List Seat) (acc : List Kill) (y : List UInt8), acc.length + ks.length ≤ 200 → scan (killsB ks ++ y) li ⟨S, 1, 0, false, [], acc⟩ = scan y (li + ks.length) ⟨S, 1, 0, false, [], acc ++ killsAt li ks⟩
  | [], li, S, acc, y, _ => by simp [killsB, killsAt]
  | k :: r, li, S, acc, y, hl => by
    have hlt : acc.length < 200 := by simp at hl; omega
    have ih := scan_kills r (li + 1) S
    have e : killsB (k :: r) ++ y = killB k ++ (killsB r ++ y) := by unfold killsB; rw [List.flatMap_cons, List.append_assoc]
    have hn : li + ((k :: r).length : Nat) = li + 1 + (r.length : Nat) := by simp; omega
    rw [e, hn]
    unfold killsAt
    rw [List.append_cons]
    match k with
    | 0 =>
      have hx : (10 * ((if 0 < 3 then 0 else 3 : Nat) : Int)) = 0 := by simp
      rw [hx, ← ih (acc ++ [(⟨0, 0, (li, 1), (li, 6)⟩ : Kill)]) y (by simp at hl ⊢; omega)]
      exact step_line (v := [107, 105, 108, 108, 32, 48, 32, 48]) (tk_k0 li) (by simp [Tok.endB]) rfl (line_kill 0 li _ S acc hlt _ (by decide))
    | 1 =>
      have hx : (10 * ((if 1 < 3 then 1 else 3 : Nat) : Int)) = 10 := by simp
      rw [hx, ← ih (acc ++ [(⟨0, 10, (li, 1), (li, 6)⟩ : Kill)]) y (by simp at hl ⊢; omega)]
      exact step_line (v := [107, 105, 108, 108, 32, 48, 32, 49, 48]) (tk_k1 li) (by simp [Tok.endB]) rfl (line_kill 10 li _ S acc hlt _ (by decide))
    | 2 =>
      have hx : (10 * ((if 2 < 3 then 2 else 3 : Nat) : Int)) = 20 := by simp
      rw [hx, ← ih (acc ++ [(⟨0, 20, (li, 1), (li, 6)⟩ : Kill)]) y (by simp at hl ⊢; omega)]
      exact step_line (v := [107, 105, 108, 108, 32, 48, 32, 50, 48]) (tk_k2 li) (by simp [Tok.endB]) rfl (line_kill 20 li _ S acc hlt _ (by decide))
    | k + 3 =>
      have hx : (10 * ((if k + 3 < 3 then k + 3 else 3 : Nat) : Int)) = 30 := by rw [if_neg (by omega)]; rfl
      rw [hx, ← ih (acc ++ [(⟨0, 30, (li, 1), (li, 6)⟩ : Kill)]) y (by simp at hl ⊢; omega)]
      exact step_line (v := [107, 105, 108, 108, 32, 48, 32, 51, 48]) (tk_k3 li) (by simp [Tok.endB]) rfl (line_kill 30 li _ S acc hlt _ (by decide))
/-- The first kill that is wrong: how many are ahead of it, the column. -/
def firstBad : List Nat → List Nat → Option (Nat × Nat)
  | [], _ => none
  | k :: r, acc => if k ≥ 3 then some (acc.length, 6) else if k ∈ acc then some (acc.length, 1) else firstBad r (acc ++ [k])
theorem at_three (k : Nat) : atI three 0 (10 * ((if k < 3 then k else 3 : Nat) : Int)) = if k < 3 then (k : Int) else -1 := by
  match k with
  | 0 => decide
  | 1 => decide
  | 2 => decide
  | k + 3 => rw [if_neg (by omega), if_neg (by omega)]; decide
theorem kills_run : ∀ (ks acc : List Nat) (li : Int), killsL three (killsAt (li + acc.length) ks) (acc.map (fun k : Nat => (k : Int))) =
    match firstBad ks acc with
    | none => .ok ((acc ++ ks).map (fun k : Nat => (k : Int)))
    | some (i, c) => .error (li + (i : Nat), (c : Nat))
  | [], acc, li => by simp [killsAt, killsL, firstBad]
  | k :: r, acc, li => by
    unfold killsAt killsL firstBad
    simp only [at_three]
    by_cases h3 : k < 3
    · rw [if_pos h3, if_neg (show ¬ ((k : Int) < 0) by omega), if_neg (show ¬ k ≥ 3 by omega)]
      by_cases hm : k ∈ acc
      · have hm' : (k : Int) ∈ acc.map (fun k : Nat => (k : Int)) := List.mem_map.2 ⟨k, hm, rfl⟩
        rw [if_pos hm', if_pos hm]
        rfl
      · have hm' : ¬ (k : Int) ∈ acc.map (fun k : Nat => (k : Int)) := fun hc => by
          obtain ⟨j, hj, e⟩ := List.mem_map.1 hc
          have : j = k := by omega
          subst this; exact hm hj
        rw [if_neg hm', if_neg hm]
        have ih := kills_run r (acc ++ [k]) li
        have hl : li + ((acc ++ [k]).length : Nat) = li + (acc.length : Nat) + 1 := by simp; omega
        rw [hl, List.map_append] at ih
        simp only [List.map_cons, List.map_nil] at ih
        rw [ih, List.append_assoc]
        rfl
    · rw [if_neg h3, if_pos (by decide), if_pos (by omega)]
      rfl
def killsT (ahead : Bool) (ks : List Nat) : List UInt8 := if ahead then gapB ++ (threeB ++ killsB ks) else gapB ++ (killsB ks ++ threeB)
/-- The line of the first kill. -/
def killsLine (ahead : Bool) : Int := if ahead then 5 else 2
theorem kills_len (ks : List Nat) : (killsB ks).length ≤ ks.length * 10 := by
  induction ks with
  | nil => simp [killsB]
  | cons k r ih =>
    have e : killsB (k :: r) = killB k ++ killsB r := by unfold killsB; rw [List.flatMap_cons]
    have hk : (killB k).length ≤ 10 := by
      match k with
      | 0 => decide
      | 1 => decide
      | 2 => decide
      | k + 3 => show ([107, 105, 108, 108, 32, 48, 32, 51, 48, 10] : List UInt8).length ≤ 10; decide
    rw [e, List.length_append, List.length_cons]; omega
theorem killsT_len (ahead : Bool) (ks : List Nat) (h : ks.length ≤ 6) : (killsT ahead ks).length ≤ 110 := by
  have := kills_len ks
  have h1 : gapB.length = 6 := rfl
  have h2 : threeB.length = 35 := rfl
  unfold killsT
  split <;> simp only [List.length_append] <;> omega
theorem kills_scan (ahead : Bool) (ks : List Nat) (h : ks.length ≤ 6) : ∃ li : Int, scan (killsT ahead ks) 1 St.zero = ((li, 1, 0), .ok ⟨three, 1, 0, false, [], killsAt (killsLine ahead) ks⟩) := by
  cases ahead
  · refine ⟨2 + (ks.length : Nat) + 1 + 1 + 1, ?_⟩
    have e : killsT false ks = gapB ++ (killsB ks ++ (threeB ++ [])) := by simp [killsT]
    rw [e, scan_gap, scan_kills ks 2 [] [] _ (by simp; omega), scan_three, scan_nil]
    rfl
  · refine ⟨5 + (ks.length : Nat), ?_⟩
    have e : killsT true ks = gapB ++ (threeB ++ (killsB ks ++ [])) := by simp [killsT]
    rw [e, scan_gap, scan_three, scan_kills ks _ three [] _ (by simp; omega), scan_nil]
    rfl
theorem kills_read (ahead : Bool) (ks : List Nat) (h : ks.length ≤ 6) : readL (killsT ahead ks) =
    match firstBad ks [] with
    | none => .ok ⟨three, 1, 0, ks.map (fun k : Nat => (k : Int)), []⟩
    | some (i, c) => .error (2, killsLine ahead + (i : Nat), (c : Nat)) := by
  obtain ⟨li, hs⟩ := kills_scan ahead ks h
  rw [readL_scan (by have := killsT_len ahead ks h; omega), hs]
  simp only [if_true]
  have hk := kills_run ks [] (killsLine ahead)
  simp only [List.length_nil, List.map_nil, List.nil_append] at hk
  rw [show killsLine ahead + ((0 : Nat) : Int) = killsLine ahead by simp] at hk
  unfold wholeL
  rw [if_neg (by simp [three])]
  simp only [hk]
  cases firstBad ks [] with
  | none => rfl
  | some p => rfl
/-- What is known when none is wrong. -/
theorem bad_none : ∀ (ks acc : List Nat), firstBad ks acc = none → acc.Nodup → (∀ k ∈ acc, k < 3) → (acc ++ ks).Nodup ∧ ∀ k ∈ acc ++ ks, k < 3
  | [], acc, _, h1, h2 => by rw [List.append_nil]; exact ⟨h1, h2⟩
  | k :: r, acc, h, h1, h2 => by
    unfold firstBad at h
    by_cases h3 : k ≥ 3
    · rw [if_pos h3] at h; cases h
    · rw [if_neg h3] at h
      by_cases hm : k ∈ acc
      · rw [if_pos hm] at h; cases h
      · rw [if_neg hm] at h
        rw [List.append_cons]
        refine bad_none r (acc ++ [k]) h ?_ ?_
        · rw [List.nodup_append]
          refine ⟨h1, by simp, ?_⟩
          intro a ha b hb hab
          rw [List.mem_singleton] at hb
          subst hb; subst hab; exact hm ha
        · intro a ha
          rcases List.mem_append.1 ha with ha | ha
          · exact h2 a ha
          · rw [List.mem_singleton] at ha; omega
theorem norm_three {ks : List Int} {ord : List Nat} (h : IsOrder (⟨three, 1, 0, ks, []⟩ : Ven).seats ord) : ord = [0, 1, 2] := by
  have hr : ([0, 1, 2] : List Nat).Pairwise fun i j => ltS three[i]! three[j]! = true := by decide
  have hp : ([0, 1, 2] : List Nat).Perm (List.range three.length) := List.Perm.refl _
  exact (order_unique (rising_order hp hr) h hr).symm
/-- The kills among the three seats. -/
def inL (ks : List Nat) (n : Nat) : List Int := ((List.range n).filter (fun k => decide (k ∈ ks))).map (fun k : Nat => (k : Int))
theorem inL_succ (ks : List Nat) (n : Nat) : inL ks (n + 1) = inL ks n ++ if n ∈ ks then [(n : Int)] else [] := by
  unfold inL
  rw [List.range_succ, List.filter_append, List.map_append]
  by_cases h : n ∈ ks <;> simp [h]
theorem norm_kills (ks : List Nat) {ord : List Nat} (h : IsOrder (⟨three, 1, 0, ks.map (fun k : Nat => (k : Int)), []⟩ : Ven).seats ord) :
    normU ⟨three, 1, 0, ks.map (fun k : Nat => (k : Int)), []⟩ ord = ⟨three, 1, 0, inL ks 3, []⟩ := by
  rw [norm_three h]
  unfold normU
  have e : ∀ j : Nat, Ven.markB (ks.map (fun k : Nat => (k : Int))) j = decide (j ∈ ks) := fun j => by
    unfold Ven.markB
    have : ((j : Int) ∈ ks.map (fun k : Nat => (k : Int))) ↔ j ∈ ks := by
      constructor
      · intro hm
        obtain ⟨i, hi, e⟩ := List.mem_map.1 hm
        have : i = j := by omega
        subst this; exact hi
      · intro hm; exact List.mem_map.2 ⟨j, hm, rfl⟩
    simp only [this]
  have hp : Ven.pick three [0, 1, 2] = three := by decide
  have hq : Ven.posOf (ks.map (fun k : Nat => (k : Int))) [0, 1, 2] 3 = inL ks 3 := by
    unfold Ven.posOf inL
    simp only [e]
    rfl
  show (⟨Ven.pick three [0, 1, 2], 1, 0, Ven.posOf (ks.map (fun k : Nat => (k : Int))) [0, 1, 2] 3, []⟩ : Ven) = _
  rw [hp, hq]
/-- One kill more. -/
theorem bad_snoc : ∀ (a acc : List Nat) (k : Nat), firstBad (a ++ [k]) acc = match firstBad a acc with
    | some p => some p
    | none => if k ≥ 3 then some ((acc ++ a).length, 6) else if k ∈ acc ++ a then some ((acc ++ a).length, 1) else none
  | [], acc, k => by
    rw [List.nil_append, List.append_nil]
    unfold firstBad
    simp only [firstBad]
  | x :: a, acc, k => by
    rw [List.cons_append]
    unfold firstBad
    by_cases h3 : x ≥ 3
    · rw [if_pos h3, if_pos h3]
    · rw [if_neg h3, if_neg h3]
      by_cases hm : x ∈ acc
      · rw [if_pos hm, if_pos hm]
      · rw [if_neg hm, if_neg hm, bad_snoc a (acc ++ [x]) k, List.append_assoc, List.singleton_append]
/-- The line, the column that the law holds. -/
def badOf (ds : List Nat) : Nat := match firstBad ds [] with | none => 0 | some (i, _) => i + 1
def colOf (ds : List Nat) : Nat := match firstBad ds [] with | none => 0 | some (_, c) => c
theorem bad_keep {ds : List Nat} (k : Nat) (h : 0 < badOf ds) : badOf (ds ++ [k]) = badOf ds ∧ colOf (ds ++ [k]) = colOf ds := by
  unfold badOf colOf at *
  rw [bad_snoc]
  cases hf : firstBad ds [] with
  | none => rw [hf] at h; simp at h
  | some p => exact ⟨rfl, rfl⟩
theorem bad_free {ds : List Nat} (h : badOf ds = 0) : firstBad ds [] = none := by
  unfold badOf at h
  cases hf : firstBad ds [] with
  | none => rfl
  | some p => rw [hf] at h; simp at h
theorem bad_three {ds : List Nat} (h : badOf ds = 0) : badOf (ds ++ [3]) = ds.length + 1 ∧ colOf (ds ++ [3]) = 6 := by
  unfold badOf colOf
  rw [bad_snoc, bad_free h]
  exact ⟨rfl, rfl⟩
theorem bad_again {ds : List Nat} (h : badOf ds = 0) (k : Nat) (hk : k < 3) (hm : k ∈ ds) : badOf (ds ++ [k]) = ds.length + 1 ∧ colOf (ds ++ [k]) = 1 := by
  unfold badOf colOf
  rw [bad_snoc, bad_free h]
  simp only [List.nil_append]
  rw [if_neg (by omega), if_pos hm]
  exact ⟨rfl, rfl⟩
theorem bad_new {ds : List Nat} (h : badOf ds = 0) (k : Nat) (hk : k < 3) (hm : ¬ k ∈ ds) : badOf (ds ++ [k]) = 0 ∧ colOf (ds ++ [k]) = 0 := by
  unfold badOf colOf
  rw [bad_snoc, bad_free h]
  simp only [List.nil_append]
  rw [if_neg (by omega), if_neg hm]
  exact ⟨rfl, rfl⟩
theorem bad_col {ds : List Nat} (h : badOf ds = 0) : colOf ds = 0 := by
  unfold colOf; rw [bad_free h]
theorem kills_snoc (ds : List Nat) (k : Nat) : killsB (ds ++ [k]) = killsB ds ++ killB k := by unfold killsB; rw [List.flatMap_append]; simp
theorem inL_part (ds : List Nat) (m : Nat) : ∀ d, ∃ R, inL ds (m + d) = inL ds m ++ R
  | 0 => ⟨[], by simp⟩
  | d + 1 => by
    obtain ⟨R, h⟩ := inL_part ds m d
    refine ⟨R ++ (if m + d ∈ ds then [((m + d : Nat) : Int)] else []), ?_⟩
    rw [show m + (d + 1) = (m + d) + 1 from rfl, inL_succ, h, List.append_assoc]
theorem inL_hit (ds : List Nat) (k : Nat) (hk : k < 3) (h : k ∈ ds) : ∃ hn : (inL ds k).length < (inL ds 3).length, (inL ds 3)[(inL ds k).length] = k ∧ (inL ds (k + 1)).length = (inL ds k).length + 1 := by
  have e := inL_succ ds k
  rw [if_pos h] at e
  obtain ⟨R, hR⟩ := inL_part ds (k + 1) (3 - (k + 1))
  rw [show k + 1 + (3 - (k + 1)) = 3 by omega, e] at hR
  refine ⟨by rw [hR]; simp, ?_, by rw [e]; simp⟩
  simp only [hR, List.append_assoc]
  rw [List.getElem_append_right (Nat.le_refl _)]
  simp
theorem inL_miss (ds : List Nat) (k : Nat) (h : ¬ k ∈ ds) : (inL ds (k + 1)).length = (inL ds k).length := by
  rw [inL_succ, if_neg h, List.append_nil]
theorem inL_len (ds : List Nat) (k : Nat) : (inL ds k).length ≤ k := by
  unfold inL
  rw [List.length_map]
  have := List.length_filter_le (fun k => decide (k ∈ ds)) (List.range k)
  rwa [List.length_range] at this
end Go.Proofs.YtdffleaokccgmaaGreatDoor.Par

namespace Go.Proofs.YtdffleaokccgmaaGreatDoor.Prn
set_option linter.unusedVariables false
set_option maxRecDepth 100000
open Go.RowKit Go.Shelf
open Go.Proofs.YtdffleaokccgmaaGreatDoor.Ven (Seat Pole Ven VenAt venV Box mayB mixed SeatAt below_alloc Cells intC)

theorem bapp (l r : List UInt8) : (⟨l.toArray⟩ : ByteArray) ++ ⟨r.toArray⟩ = ⟨(l ++ r).toArray⟩ := by rw [ByteArray.mk_append_mk]
theorem below_drew_alloc (W : World) (o : Obj) : Below W.heap.size W (W.drew.alloc o) := Below.alloc (Below.drew (Below.refl W.heap.size W)) (show W.heap.size ≤ W.drew.heap.size from Nat.le_refl _) o
theorem drewN_past (w : World) (n : Nat) : Below w.heap.size w (w.drewN n) := ⟨rfl, rfl, rfl, Nat.le_refl _, fun _ _ => rfl⟩
theorem coord64 {n : Int} (h : Ven.coordB n = true) : I64 n := by unfold Ven.coordB at h; unfold I64; simp at h; omega
theorem row64 {n : Int} (h : Ven.rowB n = true) : I64 n := by unfold Ven.rowB at h; unfold I64; simp at h; omega
theorem length64 {n : Int} (h : Ven.lengthB n = true) : I64 n := by unfold Ven.lengthB at h; unfold I64; simp at h; omega
theorem dist64 {n : Int} (h : Ven.distB n = true) : I64 n := by unfold Ven.distB at h; unfold I64; simp at h; omega
/-- What a venue that may be has. -/
structure MayV (V : Ven) : Prop where
  n1 : 1 ≤ V.seats.length
  n2 : V.seats.length ≤ 4096
  seat : ∀ s ∈ V.seats, I64 s.row ∧ I64 s.x ∧ I64 s.y
  gap : I64 V.gap
  radius : I64 V.radius
  kn : V.kills.length ≤ 200
  kill : ∀ k ∈ V.kills, 0 ≤ k ∧ k < V.seats.length
  rise : V.kills.Pairwise (fun a b => a < b)
  pn : V.poles.length ≤ 200
  pole : ∀ p ∈ V.poles, I64 p.x ∧ I64 p.y ∧ I64 p.r
theorem may_v {V : Ven} (h : mayB V = true) : MayV V := by
  unfold Ven.mayB at h
  simp only [Bool.and_eq_true] at h
  obtain ⟨⟨⟨⟨h1, h2⟩, h3⟩, h4⟩, h5⟩ := h
  obtain ⟨s1, s2, s3, _⟩ := (Ven.seatsB_iff _).1 h1
  obtain ⟨k1, k2, k3⟩ := (Ven.killsB_iff _ _).1 h4
  obtain ⟨p1, p2⟩ := (Ven.polesB_iff _).1 h5
  refine ⟨s1, s2, fun s hs => ?_, length64 h2, dist64 h3, k1, fun k hk => ?_, k3, p1, fun p hp => ?_⟩
  · have := s3 s hs
    unfold Ven.seatB Ven.standsB at this
    simp only [Bool.and_eq_true] at this
    exact ⟨row64 this.1.1, coord64 this.1.2.1, coord64 this.1.2.2⟩
  · have := k2 k hk
    unfold Ven.isSeatB at this
    simp at this; exact this
  · have := p2 p hp
    unfold Ven.poleB Ven.standsB at this
    simp only [Bool.and_eq_true] at this
    exact ⟨coord64 this.1.1, coord64 this.1.2, length64 this.2⟩
/-- A slice of ints that came in: of no length, or a row of 'cap' cells. -/
def IsRow (k : IntKind) (w : World) (a : Option Addr) (len cap : Nat) (zs : List Int) : Prop :=
  (a = none ∧ len = 0 ∧ cap = 0 ∧ zs = []) ∨
  ∃ x, a = some x ∧ len ≤ cap ∧ cap ≤ maxLen ∧ zs.length = cap ∧ (∀ i, i < zs.length → w.cell? (x.add i) = some (.int k (zs.getD i 0))) ∧ ∀ n ∈ zs, (Lit.int k n).wf = true
/-- The numbers of such a slice, as far as it is long. -/
def Own (w : World) (a : Option Addr) (len : Nat) (l : List Int) : Prop := l.length = len ∧ len ≤ maxLen ∧ (len = 0 ∨ ∃ b off, a = some ⟨b, off, none⟩ ∧ b < w.heap.size ∧ ∀ i (h : i < l.length), w.cell? ⟨b, off + i, none⟩ = some (.int .i64 l[i]))
theorem Own.next {w w' : World} {a : Option Addr} {len : Nat} {l : List Int} (h : Own w a len l) (hb : Below w.heap.size w w') : Own w' a len l := by
  obtain ⟨h1, hm, h2 | ⟨b, off, h2, h3, h4⟩⟩ := h
  · exact ⟨h1, hm, .inl h2⟩
  · exact ⟨h1, hm, .inr ⟨b, off, h2, Nat.lt_of_lt_of_le h3 hb.size, fun i hi => by rw [hb.cell (p := ⟨b, off + i, none⟩) h3]; exact h4 i hi⟩⟩
theorem IsRow.own {w : World} {a : Option Addr} {len cap : Nat} {zs : List Int} (h : IsRow .i64 w a len cap zs) : Own w a len (zs.take len) := by
  rcases h with ⟨rfl, rfl, rfl, rfl⟩ | ⟨x, rfl, hl, hm, hz, hcell, _⟩
  · exact ⟨rfl, Nat.zero_le _, .inl rfl⟩
  · refine ⟨by rw [List.length_take]; omega, by omega, ?_⟩
    rcases Nat.eq_zero_or_pos len with h0 | h0
    · exact .inl h0
    · obtain ⟨b, off, rfl, hc⟩ := ints_at hcell (show 0 < zs.length by omega)
      refine .inr ⟨b, off, rfl, ?_, fun i hi => ?_⟩
      · have h1 := hc 0 (by omega)
        rcases Nat.lt_or_ge b w.heap.size with h' | h'
        · exact h'
        · simp [World.cell?, Array.getElem?_eq_none h'] at h1
      · rw [List.length_take] at hi
        have := hc i (by omega)
        rw [this, List.getElem_take]
        simp [List.getD, show i < zs.length by omega]
theorem sl_addr {α : Type} {k : Nat} {enc : α → List Value} {w : World} {a : Option Addr} {n c : Nat} {l : List α} (h : Ven.Sl k enc w (.slice a n c) l) (hl : 0 < l.length) : ∃ b off, a = some ⟨b, off, none⟩ ∧ n = l.length ∧ Ven.Cells k enc w b off l := by
  rcases h with ⟨_, rfl⟩ | ⟨b, off, cap, he, _, _, hC⟩
  · simp at hl
  · injection he with h1 h2 h3
    exact ⟨b, off, h1, h2, hC⟩
theorem cellsInt {w : World} {b off : Nat} {l : List Int} (h : Cells 1 intC w b off l) (k : Nat) (hk : k < l.length) : w.cell? ⟨b, off + k, none⟩ = some (.int .i64 l[k]) := by
  have := h.2 k hk 0 _ rfl
  simpa using this
end Go.Proofs.YtdffleaokccgmaaGreatDoor.Prn

namespace Go.Proofs.YtdffleaokccgmaaGreatDoor.Prn
open Go.RowKit Go.Shelf
open Go.Proofs.YtdffleaokccgmaaGreatDoor.Tok (Ints Lits mod_u64 allP allP_cases)
open Go.Proofs.YtdffleaokccgmaaGreatDoor.Par (readL readL_large readL_scan scan)
set_option linter.unusedVariables false
set_option maxRecDepth 100000

theorem ints_of {w : World} {ao : Option Addr} {len cap : Nat} {zs : List Int} (h : IsRow .i64 w ao len cap zs) (m : Nat) : len ≤ 9223372036854775807 ∧ Ints w ao (min len m) := by
  obtain ⟨h1, h2, h3⟩ := h.own
  unfold maxLen at h2
  refine ⟨by omega, ?_⟩
  rcases h3 with h3 | ⟨b, off, h4, h5, h6⟩
  · exact .inl (by omega)
  · exact .inr ⟨b, off, h4, h5, fun i hi => ⟨_, h6 i (by omega)⟩⟩
/-- A row of texts in a block, none longer than 20 bytes. -/
theorem lits_fresh (w : World) (cs : Array Value) (t : TypeId) (n : Nat) (h : ∀ m, m < n → ∃ P : List UInt8, cs[m]? = some (.string ⟨P.toArray⟩) ∧ P.length ≤ 20) : Lits (w.alloc (.cells cs t)) w.heap.size n := Tok.Lits.fresh w cs t n h
theorem code_02 : ∀ (n : Nat) (l : List UInt8) (li co : Int), l.length ≤ n → (allP l li co).2.2.2 = 0 ∨ (allP l li co).2.2.2 = 2 := by
  intro n
  induction n with
  | zero =>
    intro l li co hl
    rcases allP_cases l li co with ⟨_, h⟩ | ⟨_, _, _, _, _, _, h⟩ | ⟨_, gk, gn, gt, gs, _, h1, h2, _, h⟩
    · rw [h]; exact .inl rfl
    · rw [h]; exact .inr rfl
    · omega
  | succ n ih =>
    intro l li co hl
    rcases allP_cases l li co with ⟨_, h⟩ | ⟨_, _, _, _, _, _, h⟩ | ⟨_, gk, gn, gt, gs, _, h1, h2, _, h⟩
    · rw [h]; exact .inl rfl
    · rw [h]; exact .inr rfl
    · rw [h]
      exact ih _ _ _ (by rw [List.length_drop]; omega)
theorem readL_pos {l : List UInt8} {p : Int × Int × Int} (h : readL l = .error p) : 0 < p.1 := by
  by_cases hl : 1048576 < l.length
  · rw [readL_large hl] at h
    injection h with h
    subst h; decide
  · rw [readL_scan hl] at h
    have hc := code_02 l.length l 1 1 (Nat.le_refl _)
    have hs : (scan l 1 Par.St.zero).1.2.2 = (allP l 1 1).2.2.2 := rfl
    rw [hs] at h
    split at h
    · split at h
      · injection h with h; subst h; show (0 : Int) < 2; decide
      · split at h
        · injection h with h; subst h; show (0 : Int) < 2; decide
        · cases h
    · rename_i hne
      injection h with h
      subst h
      show 0 < (allP l 1 1).2.2.2
      omega
attribute [local go_sem] bapp
set_option maxRecDepth 100000 in
set_option maxHeartbeats 1000000 in
theorem text4_any (ao : Option Addr) (len cap : Nat) (hlen : len ≤ 9223372036854775807) (most : Nat) (hmost : most ≤ 25) (w : World) (hI : Ints w ao (min len most)) :
    Calls Tryz.prog 8 #[.slice ao len cap, .int .i64 most] w fun e w' => ∃ T : List UInt8, e = .returned (.string ⟨T.toArray⟩) ∧ T.length ≤ 550 ∧ Below w.heap.size w w' := by
  have HI : Hid (Ints w ao (min len most)) := hI
  clear hI
  go_enter Tryz.func8, Tryz.ntmps8
  go_wp2
  go_loopw [6, 7] (fun s i wr => ∃ (k : Nat) (T : List UInt8), k ≤ len ∧ k ≤ most ∧ T.length ≤ k * 21 ∧ i = .int .i64 k ∧ s = .string ⟨T.toArray⟩ ∧ Hid (Lits wr w.heap.size 30) ∧ w.heap.size < wr.heap.size ∧ Below w.heap.size w wr) (fun _ i _ => most - (intOf i).toNat)
  case atStart =>
    refine ⟨0, [], by omega, by omega, by simp, rfl, rfl, ?_, by simp, (Below.refl _ _).alloc (Nat.le_refl _) _⟩
    refine lits_fresh _ _ _ _ ?_
    intro m hm
    match m, hm with
    | 0, _ | 1, _ | 2, _ | 3, _ | 4, _ | 5, _ | 6, _ | 7, _ | 8, _ | 9, _ | 10, _ | 11, _ | 12, _ | 13, _ | 14, _ | 15, _ | 16, _ | 17, _ | 18, _ | 19, _ | 20, _ | 21, _ | 22, _ | 23, _ | 24, _ | 25, _ | 26, _ | 27, _ | 28, _ | 29, _ => exact ⟨_, rfl, by decide⟩
    | m + 30, h => omega
  case round =>
    obtain ⟨k, T, hk, hkm, hT, rfl, rfl, HL, hz, hB⟩ := hrel
    by_cases h1 : k < len
    · have h1z : (k : Int) < len := by omega
      by_cases h2 : k < most
      · have h2z : (k : Int) < most := by omega
        obtain ⟨b, off, rfl, hbl, z, hc⟩ : ∃ b off, ao = some ⟨b, off, none⟩ ∧ b < w.heap.size ∧ ∃ z, w.cell? ⟨b, off + k, none⟩ = some (.int .i64 z) := by
          rcases HI.out with h | ⟨b, off, h3, h4, h5⟩
          · omega
          · exact ⟨b, off, h3, h4, h5 k (by omega)⟩
        have hc1 : wr.cell? ⟨b, off + k, none⟩ = some (.int .i64 z) := by rw [hB.cell (p := ⟨b, off + k, none⟩) hbl]; exact hc
        clear hc
        obtain ⟨m, hm, em⟩ := mod_u64 z 30 (by omega)
        obtain ⟨P, hP, hPl⟩ := HL.out m (by omega)
        go_wp2
        refine ⟨⟨k + 1, T ++ P ++ [10], by omega, by omega, by simp; omega, by go_num, by simp, HL, hz, hB⟩, by simp [intOf]; omega⟩
      · have h2z : ¬ (k : Int) < most := by omega
        go_wp2
        go_ret
        exact ⟨T, rfl, by omega, hB⟩
    · have h1z : ¬ (k : Int) < len := by omega
      go_wp2
      go_ret
      exact ⟨T, rfl, by omega, hB⟩

end Go.Proofs.YtdffleaokccgmaaGreatDoor.Prn

namespace Go.Proofs.YtdffleaokccgmaaGreatDoor.Prn
set_option linter.unusedVariables false
set_option maxRecDepth 100000
open Go.RowKit Go.Shelf
open Go.Proofs.YtdffleaokccgmaaGreatDoor.Ven (Seat Pole Ven VenAt VenOwn venV venZ Box mayB mixed SeatAt below_alloc IsOrder normU)
open Go.Proofs.YtdffleaokccgmaaGreatDoor.Par (VenTo venue_any readL Has0 FaultAt InT readL_spot)
open Go.Proofs.YtdffleaokccgmaaGreatDoor.Flt (Et Chain)

/-- What is read, whatever it is: a fault, or a venue that may be. -/
theorem read_may (l : List UInt8) (w : World) (hB : Has0 w) : Calls Tryz.prog 11 #[.string ⟨l.toArray⟩] w fun e w' =>
    ((∃ b, e = .returned (.tuple #[venZ, .iface 77 (.pointer (some ⟨b, 0, none⟩))])) ∨
    (∃ b1 m1 d1 b2 m2 d2 b3 m3 d3 V, e = .returned (.tuple #[venV b1 m1 d1 V.gap V.radius b2 m2 d2 b3 m3 d3, .nilIface]) ∧ VenAt w' b1 m1 d1 b2 m2 d2 b3 m3 d3 V ∧ mayB V = true)) ∧ Below w.heap.size w w' := by
  refine (venue_any l w hB.rng hB.et (fun p hp => readL_pos hp)).mono ?_
  intro e w' ⟨h, hb⟩
  refine ⟨?_, hb⟩
  cases hr : readL l with
  | error p =>
    rw [hr] at h
    obtain ⟨v, he, b, rfl, _⟩ := h
    exact .inl ⟨b, he⟩
  | ok V =>
    rw [hr] at h
    obtain ⟨ord, ho, hm, b1, m1, d1, b2, m2, d2, b3, m3, d3, he, hv⟩ := h
    exact .inr ⟨b1, m1, d1, b2, m2, d2, b3, m3, d3, normU V ord, he, hv.at, hm⟩
theorem code_at {c li co : Int} {v : Value} {W : World} (hE : Et W) (hf : FaultAt c li co v W) (ic : I64 c) (il : I64 li) (io : I64 co) : Calls Tryz.prog 13 #[v] W fun e w' => e = .returned (.int .i64 c) ∧ Below W.heap.size W w' :=
  callsIn_wide.1 (Flt.Code_in 3 (by omega) v (c, li, co) [] W hE (hf.chain ic il io))
theorem spot_at {c li co : Int} {v : Value} {W : World} (hE : Et W) (hf : FaultAt c li co v W) (ic : I64 c) (il : I64 li) (io : I64 co) (hp : 0 < li) : Calls Tryz.prog 14 #[v] W fun e w' => e = .returned (.agg #[.int .i64 li, .int .i64 co]) ∧ Below W.heap.size W w' := by
  have h := callsIn_wide.1 (Flt.Spot_in 3 (by omega) v [(c, li, co)] W hE (hf.chain ic il io))
  have hs : Flt.spotOf [(c, li, co)] = (li, co) := by
    unfold Flt.spotOf
    rw [if_pos (by unfold Flt.placedB; simp; omega)]
  rw [hs] at h
  exact h
/-- What is read of a text within the bound: a fault of code 2 with its place, or a venue that may be. -/
theorem read_two (l : List UInt8) (hl : l.length ≤ 1048576) (w : World) (hB : Has0 w) : Calls Tryz.prog 11 #[.string ⟨l.toArray⟩] w fun e w' =>
    ((∃ b, e = .returned (.tuple #[venZ, .iface 77 (.pointer (some ⟨b, 0, none⟩))]) ∧
      (∀ W, Below w'.heap.size w' W → Calls Tryz.prog 13 #[.iface 77 (.pointer (some ⟨b, 0, none⟩))] W fun e W' => e = .returned (.int .i64 2) ∧ Below W.heap.size W W')) ∨
    (∃ b1 m1 d1 b2 m2 d2 b3 m3 d3 V, e = .returned (.tuple #[venV b1 m1 d1 V.gap V.radius b2 m2 d2 b3 m3 d3, .nilIface]) ∧ VenAt w' b1 m1 d1 b2 m2 d2 b3 m3 d3 V ∧ mayB V = true)) ∧ Below w.heap.size w w' := by
  refine (venue_any l w hB.rng hB.et (fun p hp => readL_pos hp)).mono ?_
  intro e w' ⟨h, hb⟩
  refine ⟨?_, hb⟩
  cases hr : readL l with
  | error p =>
    obtain ⟨hc, hs⟩ := readL_spot (by omega) hr
    rw [hr] at h
    obtain ⟨v, he, hf⟩ := h
    rw [hc] at hf
    obtain ⟨i1, i2, i3, i4⟩ := hs
    have hv := hf
    obtain ⟨b, rfl, _⟩ := hv
    refine .inl ⟨b, he, fun W hW => code_at ((hB.next hb).next hW).et (hf.next hW) ⟨by omega, by omega⟩ ⟨by omega, by omega⟩ ⟨by omega, by omega⟩⟩
  | ok V =>
    rw [hr] at h
    obtain ⟨ord, ho, hm, b1, m1, d1, b2, m2, d2, b3, m3, d3, he, hv⟩ := h
    exact .inr ⟨b1, m1, d1, b2, m2, d2, b3, m3, d3, normU V ord, he, hv.at, hm⟩
end Go.Proofs.YtdffleaokccgmaaGreatDoor.Prn

namespace Go.Proofs.YtdffleaokccgmaaGreatDoor.Prn
set_option linter.unusedVariables false
set_option maxRecDepth 100000
open Go.RowKit Go.Shelf
open Go.Proofs.YtdffleaokccgmaaGreatDoor.Ven (Seat Pole Ven VenAt VenOwn venV venZ Box mayB mixed SeatAt below_alloc IsOrder normU rmay_any BelowOf wp_region_quiet_below)
open Go.Proofs.YtdffleaokccgmaaGreatDoor.Par (VenTo venue_any readL Has0 FaultAt told_any)
open Go.Proofs.YtdffleaokccgmaaGreatDoor.Tok (Ints)

attribute [local go_sem] bapp
theorem hid' {p : Prop} (h : p) : Hid p := h
/-- What a text within the bound is read as, as the law asks of it: its value, its error, and what is known of both. -/
def MayRes (e : Ending) (w' : World) : Prop :=
  (∃ b, e = .returned (.tuple #[.agg #[.slice none 0 0, .int .i64 0, .int .i64 0, .slice none 0 0, .slice none 0 0], .iface 77 (.pointer (some ⟨b, 0, none⟩))]) ∧
    (∀ W, Below w'.heap.size w' W → Calls Tryz.prog 13 #[.iface 77 (.pointer (some ⟨b, 0, none⟩))] W fun e W' => e = .returned (.int .i64 2) ∧ Below W.heap.size W W')) ∨
  (∃ b1 m1 d1 b2 m2 d2 b3 m3 d3 gap rad, e = .returned (.tuple #[.agg #[.slice b1 m1 d1, .int .i64 gap, .int .i64 rad, .slice b2 m2 d2, .slice b3 m3 d3], .nilIface]) ∧
    (∀ W, Below w'.heap.size w' W → Calls Tryz.prog 16 #[.agg #[.slice b1 m1 d1, .int .i64 gap, .int .i64 rad, .slice b2 m2 d2, .slice b3 m3 d3]] W fun e W' => e = .returned (.bool true) ∧ Below W.heap.size W W'))
theorem read_res (l : List UInt8) (hl : l.length ≤ 1048576) (w : World) (hB : Has0 w) : Calls Tryz.prog 11 #[.string ⟨l.toArray⟩] w fun e w' => MayRes e w' ∧ Below w.heap.size w w' := by
  refine (read_two l hl w hB).mono ?_
  rintro e w' ⟨h, hb⟩
  refine ⟨?_, hb⟩
  rcases h with ⟨b, he, hc⟩ | ⟨b1, m1, d1, b2, m2, d2, b3, m3, d3, V, he, hv, hm⟩
  · exact .inl ⟨b, he, hc⟩
  · refine .inr ⟨b1, m1, d1, b2, m2, d2, b3, m3, d3, V.gap, V.radius, he, fun W hW => ?_⟩
    have := rmay_any b1 b2 b3 m1 d1 m2 d2 m3 d3 V W (hv.next hW)
    rw [hm] at this
    exact this
set_option maxHeartbeats 4000000 in
theorem may_long (b : List UInt8) (hb0 : b.length ≤ maxLen) (h : 300 < b.length) (ao : Option Addr) (len cap : Nat) (w : World) (hB : Has0 w) :
    Calls Tryz.prog 4 #[.string ⟨b.toArray⟩, .slice ao len cap] w fun e w' => e = .returned (.bool true) ∧ Below w.heap.size w w' := by
  unfold maxLen at hb0
  have hz : (300 : Int) < b.length := by omega
  go_enter Tryz.func4, Tryz.ntmps4
  go_wp2_with fail
  refine (told_any w hB).mono ?_
  rintro e w1 ⟨rfl, b1⟩
  go_wp2
  go_ret
  exact ⟨rfl, b1⟩
set_option maxHeartbeats 8000000 in
theorem may_law {w : World} (b : List UInt8) (hb0 : b.length ≤ maxLen) (ao : Option Addr) (len cap : Nat) (zs : List Int) (hz : IsRow .i64 w ao len cap zs) (w1 : World) (hB1 : Has0 w1) (hw : w = w1 := by rfl) :
    Calls Tryz.prog 4 #[.string ⟨b.toArray⟩, .slice ao len cap] w1 fun e w' => e = .returned (.bool true) ∧ Below w1.heap.size w1 w' := by
  subst hw
  by_cases hlen : 300 < b.length
  · exact may_long b hb0 hlen ao len cap w hB1
  have HB : Hid (Has0 w) := hB1
  clear hB1 hb0
  obtain ⟨hl, hI⟩ := ints_of hz 20
  have HTX : Hid (∀ W, Below w.heap.size w W → Calls Tryz.prog 8 #[.slice ao len cap, .int .i64 20] W fun e w' => ∃ T : List UInt8, e = .returned (.string ⟨T.toArray⟩) ∧ T.length ≤ 550 ∧ Below W.heap.size W w') := fun W hW => text4_any ao len cap hl 20 (by decide) W (hI.next hW)
  clear hl hI hz
  have hz : ¬ ((300 : Int) < b.length) := by omega
  have hrd := read_res b (by omega) w HB.out
  go_enter Tryz.func4, Tryz.ntmps4
  go_wp2_with fail
  refine hrd.mono ?_
  clear hrd
  rintro e w2 ⟨h, hb2⟩
  have HB2 : Hid (Below w.heap.size w w2) := hb2
  clear hb2 hz hlen
  -- what the first text was read as
  have h' : ∃ (vs1 : Option Addr) (vn1 vc1 : Nat) (gap rad : Int) (x2 : Option Addr) (k2 l2 : Nat) (x3 : Option Addr) (k3 l3 : Nat) (ev : Value) (mb : Bool), e = .returned (.tuple #[.agg #[.slice vs1 vn1 vc1, .int .i64 gap, .int .i64 rad, .slice x2 k2 l2, .slice x3 k3 l3], ev]) ∧
      ((mb = true ∧ ev = .nilIface ∧ ∀ W, Below w2.heap.size w2 W → Calls Tryz.prog 16 #[.agg #[.slice vs1 vn1 vc1, .int .i64 gap, .int .i64 rad, .slice x2 k2 l2, .slice x3 k3 l3]] W fun e W' => e = .returned (.bool true) ∧ Below W.heap.size W W') ∨
       (mb = false ∧ vn1 = 0 ∧ ∃ q, ev = .iface 77 (.pointer (some ⟨q, 0, none⟩)) ∧ ∀ W, Below w2.heap.size w2 W → Calls Tryz.prog 13 #[.iface 77 (.pointer (some ⟨q, 0, none⟩))] W fun e W' => e = .returned (.int .i64 2) ∧ Below W.heap.size W W')) := by
    rcases h with ⟨q, he, hc⟩ | ⟨b1, m1, d1, b2, m2, d2, b3, m3, d3, gap, rad, he, hm⟩
    · exact ⟨none, 0, 0, 0, 0, none, 0, 0, none, 0, 0, _, false, he, .inr ⟨rfl, rfl, q, rfl, hc⟩⟩
    · exact ⟨b1, m1, d1, gap, rad, b2, m2, d2, b3, m3, d3, _, true, he, .inl ⟨rfl, rfl, hm⟩⟩
  clear h
  obtain ⟨vs1, vn1, vc1, gap, rad, x2, k2, l2, x3, k3, l3, ev, mb, rfl, hres⟩ := h'
  have HRES := hid' hres
  clear hres
  go_wp2_with fail
  have HX3 : Hid (Box (w2.alloc (.cells #[.slice vs1 vn1 vc1, .int .i64 gap, .int .i64 rad, .slice x2 k2 l2, .slice x3 k3 l3] 33)) w2.heap.size 33 #[.slice vs1 vn1 vc1, .int .i64 gap, .int .i64 rad, .slice x2 k2 l2, .slice x3 k3 l3]) := Box.fresh w2 _ _
  have HK3 : Hid (Below w2.heap.size w2 (w2.alloc (.cells #[.slice vs1 vn1 vc1, .int .i64 gap, .int .i64 rad, .slice x2 k2 l2, .slice x3 k3 l3] 33))) := below_alloc w2 _
  generalize w2.alloc (.cells #[.slice vs1 vn1 vc1, .int .i64 gap, .int .i64 rad, .slice x2 k2 l2, .slice x3 k3 l3] 33) = w3 at HX3 HK3 ⊢
  have HB3 : Hid (Below w.heap.size w w3) := HB2.out.trans (HK3.out.mono HB2.out.size)
  generalize hq0 : w2.heap.size = q0 at HX3 ⊢
  have HQ0 : Hid (w2.heap.size = q0) := hq0
  clear hq0
  refine (HTX.out w3 HB3.out).mono ?_
  rintro e w4 ⟨T, rfl, hT, hb4⟩
  have HB4 : Hid (Below w.heap.size w w4) := HB3.out.trans (hb4.mono HB3.out.size)
  have HK4 : Hid (Below w2.heap.size w2 w4) := HK3.out.trans (hb4.mono HK3.out.size)
  have HX4 : Hid (Box w4 q0 33 #[.slice vs1 vn1 vc1, .int .i64 gap, .int .i64 rad, .slice x2 k2 l2, .slice x3 k3 l3]) := HX3.out.next hb4
  clear hb4 HB3 HK3 HX3 HTX
  have hr5 := read_res (103 :: 97 :: 112 :: 32 :: 49 :: 48 :: 10 :: T) (by simp; omega) w4 (HB.out.next HB4.out)
  go_wp2_with fail
  refine hr5.mono ?_
  clear hr5
  rintro e w5 ⟨h, hb5⟩
  have HB5 : Hid (Below w.heap.size w w5) := HB4.out.trans (hb5.mono HB4.out.size)
  have HK5 : Hid (Below w2.heap.size w2 w5) := HK4.out.trans (hb5.mono HK4.out.size)
  have HX5 : Hid (Box w5 q0 33 #[.slice vs1 vn1 vc1, .int .i64 gap, .int .i64 rad, .slice x2 k2 l2, .slice x3 k3 l3]) := HX4.out.next hb5
  clear hb5 HB4 HK4 HX4 hT
  have h' : ∃ (us1 : Option Addr) (un1 uc1 : Nat) (ugap urad : Int) (y2 : Option Addr) (m2 o2 : Nat) (y3 : Option Addr) (m3 o3 : Nat) (eu : Value) (mu : Bool), e = .returned (.tuple #[.agg #[.slice us1 un1 uc1, .int .i64 ugap, .int .i64 urad, .slice y2 m2 o2, .slice y3 m3 o3], eu]) ∧
      ((mu = true ∧ eu = .nilIface ∧ ∀ W, Below w5.heap.size w5 W → Calls Tryz.prog 16 #[.agg #[.slice us1 un1 uc1, .int .i64 ugap, .int .i64 urad, .slice y2 m2 o2, .slice y3 m3 o3]] W fun e W' => e = .returned (.bool true) ∧ Below W.heap.size W W') ∨
       (mu = false ∧ ∃ q, eu = .iface 77 (.pointer (some ⟨q, 0, none⟩)))) := by
    rcases h with ⟨q, he, hc⟩ | ⟨b1, m1, d1, b2, m2, d2, b3, m3, d3, gap, rad, he, hm⟩
    · exact ⟨none, 0, 0, 0, 0, none, 0, 0, none, 0, 0, _, false, he, .inr ⟨rfl, q, rfl⟩⟩
    · exact ⟨b1, m1, d1, gap, rad, b2, m2, d2, b3, m3, d3, _, true, he, .inl ⟨rfl, rfl, hm⟩⟩
  clear h
  obtain ⟨us1, un1, uc1, ugap, urad, y2, m2, o2, y3, m3, o3, eu, mu, rfl, hres⟩ := h'
  have HRESU := hid' hres
  clear hres
  go_wp2_with fail
  have HXU : Hid (Box (w5.alloc (.cells #[.slice us1 un1 uc1, .int .i64 ugap, .int .i64 urad, .slice y2 m2 o2, .slice y3 m3 o3] 33)) w5.heap.size 33 #[.slice us1 un1 uc1, .int .i64 ugap, .int .i64 urad, .slice y2 m2 o2, .slice y3 m3 o3]) := Box.fresh w5 _ _
  have HKU : Hid (Below w5.heap.size w5 (w5.alloc (.cells #[.slice us1 un1 uc1, .int .i64 ugap, .int .i64 urad, .slice y2 m2 o2, .slice y3 m3 o3] 33))) := below_alloc w5 _
  generalize w5.alloc (.cells #[.slice us1 un1 uc1, .int .i64 ugap, .int .i64 urad, .slice y2 m2 o2, .slice y3 m3 o3] 33) = W at HXU HKU ⊢
  generalize hq1 : w5.heap.size = q1 at HXU ⊢
  have HQ1 : Hid (w5.heap.size = q1) := hq1
  clear hq1
  have HBW : Hid (Below w.heap.size w W) := HB5.out.trans (HKU.out.mono HB5.out.size)
  have HKW : Hid (Below w2.heap.size w2 W) := HK5.out.trans (HKU.out.mono HK5.out.size)
  have HXW : Hid (Box W q0 33 #[.slice vs1 vn1 vc1, .int .i64 gap, .int .i64 rad, .slice x2 k2 l2, .slice x3 k3 l3]) := HX5.out.next HKU.out
  clear HB5 HK5 HX5
  have HT : Hid (∀ W', Below W.heap.size W W' → Has0 W') := fun W' h => HB.out.next (HBW.out.trans (h.mono HBW.out.size))
  have HE : Hid (∀ W', Below W.heap.size W W' → Below w.heap.size w W') := fun W' h => HBW.out.trans (h.mono HBW.out.size)
  have HMV : Hid (ev = .nilIface → ∀ W', Below W.heap.size W W' → Calls Tryz.prog 16 #[.agg #[.slice vs1 vn1 vc1, .int .i64 gap, .int .i64 rad, .slice x2 k2 l2, .slice x3 k3 l3]] W' fun e W2 => e = .returned (.bool true) ∧ Below W'.heap.size W' W2) := fun he W' h => by
    rcases HRES.out with ⟨_, _, hmv⟩ | ⟨_, _, q, hq, _⟩
    · exact hmv W' (HKW.out.trans (h.mono HKW.out.size))
    · rw [he] at hq; cases hq
  have HMU : Hid (eu = .nilIface → ∀ W', Below W.heap.size W W' → Calls Tryz.prog 16 #[.agg #[.slice us1 un1 uc1, .int .i64 ugap, .int .i64 urad, .slice y2 m2 o2, .slice y3 m3 o3]] W' fun e W2 => e = .returned (.bool true) ∧ Below W'.heap.size W' W2) := fun he W' h => by
    rcases HRESU.out with ⟨_, _, hmv⟩ | ⟨_, q, hq⟩
    · exact hmv W' (HKU.out.trans (h.mono HKU.out.size))
    · rw [he] at hq; cases hq
  have i0 := HXW.out.five
  have j0 := HXU.out.five
  have HX : Hid (∀ W', Below W.heap.size W W' → Box W' q0 33 #[.slice vs1 vn1 vc1, .int .i64 gap, .int .i64 rad, .slice x2 k2 l2, .slice x3 k3 l3] ∧ Box W' q1 33 #[.slice us1 un1 uc1, .int .i64 ugap, .int .i64 urad, .slice y2 m2 o2, .slice y3 m3 o3]) := fun W' h => ⟨HXW.out.next h, HXU.out.next h⟩
  have hev : (ev = .nilIface) ∨ (vn1 = 0 ∧ ∃ q, ev = .iface 77 (.pointer (some ⟨q, 0, none⟩)) ∧ ∀ W', Below W.heap.size W W' → Calls Tryz.prog 13 #[.iface 77 (.pointer (some ⟨q, 0, none⟩))] W' fun e W2 => e = .returned (.int .i64 2) ∧ Below W'.heap.size W' W2) := by
    rcases HRES.out with ⟨_, h, _⟩ | ⟨_, h0, q, hq, hc⟩
    · exact .inl h
    · exact .inr ⟨h0, q, hq, fun W' h => hc W' (HKW.out.trans (h.mono HKW.out.size))⟩
  have heu : (eu = .nilIface) ∨ ∃ q, eu = .iface 77 (.pointer (some ⟨q, 0, none⟩)) := by
    rcases HRESU.out with ⟨_, h, _⟩ | ⟨_, q, hq⟩
    · exact .inl h
    · exact .inr ⟨q, hq⟩
  clear HXW HXU HKU HKW HBW HB2 HRES HRESU HB i0 j0
  have HR0 : Hid (Below W.heap.size W W) := Below.refl _ W
  obtain ⟨i0, i1, i2, i3, i4⟩ := (HX.out W HR0.out).1.five
  obtain ⟨j0, j1, j2, j3, j4⟩ := (HX.out W HR0.out).2.five
  have il := (HX.out W HR0.out).1.lt
  have jl := (HX.out W HR0.out).2.lt
  rcases hev with rfl | ⟨rfl, q, rfl, hcv⟩
  · have HMV2 := hid' (HMV.out rfl)
    clear HMV
    go_simp
    go_wp2_with fail
    refine (HMV2.out W HR0.out).mono ?_
    rintro e w7 ⟨rfl, hb7⟩
    have H7 := hid' hb7
    clear hb7 i0 i1 i2 i3 i4 j0 j1 j2 j3 j4 il jl HMV2
    obtain ⟨j0, j1, j2, j3, j4⟩ := (HX.out w7 H7.out).2.five
    have jl := (HX.out w7 H7.out).2.lt
    rcases heu with rfl | ⟨r, rfl⟩
    · have HMU2 := hid' (HMU.out rfl)
      clear HMU
      go_wp2_with fail
      refine (HMU2.out w7 H7.out).mono ?_
      rintro e w8 ⟨rfl, hb8⟩
      have H8 : Hid (Below W.heap.size W w8) := H7.out.trans (hb8.mono H7.out.size)
      clear hb8 j0 j1 j2 j3 j4 jl HMU2
      go_wp2_with fail
      refine (told_any _ (HT.out w8 H8.out)).mono ?_
      rintro e w9 ⟨rfl, hb9⟩
      have H9 : Hid (Below W.heap.size W w9) := H8.out.trans (hb9.mono H8.out.size)
      clear hb9
      go_wp2
      go_ret
      exact ⟨rfl, HE.out w9 H9.out⟩
    · go_wp2_with fail
      refine (told_any _ (HT.out w7 H7.out)).mono ?_
      rintro e w9 ⟨rfl, hb9⟩
      have H9 : Hid (Below W.heap.size W w9) := H7.out.trans (hb9.mono H7.out.size)
      clear hb9
      go_wp2
      go_ret
      exact ⟨rfl, HE.out w9 H9.out⟩
  · have HCV := hid' hcv
    clear hcv HMV
    go_simp
    rcases heu with rfl | ⟨r, rfl⟩
    · have HMU2 := hid' (HMU.out rfl)
      clear HMU
      go_wp2_with fail
      refine (HMU2.out W HR0.out).mono ?_
      rintro e w8 ⟨rfl, hb8⟩
      have H8 := hid' hb8
      clear hb8 i0 i1 i2 i3 i4 j0 j1 j2 j3 j4 il jl HMU2
      obtain ⟨i0, i1, i2, i3, i4⟩ := (HX.out w8 H8.out).1.five
      have il := (HX.out w8 H8.out).1.lt
      go_wp2_with fail
      refine (told_any _ (HT.out w8 H8.out)).mono ?_
      rintro e w9 ⟨rfl, hb9⟩
      have H9 : Hid (Below W.heap.size W w9) := H8.out.trans (hb9.mono H8.out.size)
      clear hb9 i0 i1 i2 i3 i4 il
      go_wp2_with fail
      refine (HCV.out w9 H9.out).mono ?_
      rintro e w10 ⟨rfl, hb10⟩
      have H10 : Hid (Below W.heap.size W w10) := H9.out.trans (hb10.mono H9.out.size)
      clear hb10
      go_wp2
      go_ret
      exact ⟨rfl, HE.out w10 H10.out⟩
    · go_wp2_with fail
      refine (told_any _ (HT.out W HR0.out)).mono ?_
      rintro e w9 ⟨rfl, hb9⟩
      have H9 := hid' hb9
      clear hb9 i0 i1 i2 i3 i4 j0 j1 j2 j3 j4 il jl
      go_wp2_with fail
      refine (HCV.out w9 H9.out).mono ?_
      rintro e w10 ⟨rfl, hb10⟩
      have H10 : Hid (Below W.heap.size W w10) := H9.out.trans (hb10.mono H9.out.size)
      clear hb10
      go_wp2
      go_ret
      exact ⟨rfl, HE.out w10 H10.out⟩
end Go.Proofs.YtdffleaokccgmaaGreatDoor.Prn

namespace Go.Proofs.YtdffleaokccgmaaGreatDoor.Prn
set_option linter.unusedVariables false
set_option maxRecDepth 100000
open Go.RowKit Go.Shelf
open Go.Proofs.YtdffleaokccgmaaGreatDoor.Ven (Seat Pole Ven VenAt VenOwn venV venZ Box below_alloc BelowOf wp_region_quiet_below mixed IsOrder normU)
open Go.Proofs.YtdffleaokccgmaaGreatDoor.Par (VenTo venue_any check_any readL codeOf Has0 FaultAt told_any killB killsB threeB gapB killsT killsT_len killsLine kills_len kills_read kills_snoc badOf colOf bad_keep bad_three bad_again bad_new bad_col bad_free firstBad inL inL_hit inL_miss inL_len norm_kills three)
open Go.Proofs.YtdffleaokccgmaaGreatDoor.Tok (Ints mod_u64)

attribute [local go_sem] bapp
theorem hidK {p : Prop} (h : p) : Hid p := h
/-- Which of the four were told. -/
def inBox (ds : List Nat) : Array Value := #[.bool (decide (0 ∈ ds)), .bool (decide (1 ∈ ds)), .bool (decide (2 ∈ ds)), .bool (decide (3 ∈ ds))]
theorem inBox_at (ds : List Nat) (k : Nat) (hk : k < 4) : (inBox ds)[k]? = some (.bool (decide (k ∈ ds))) := by
  have : k = 0 ∨ k = 1 ∨ k = 2 ∨ k = 3 := by omega
  rcases this with rfl | rfl | rfl | rfl <;> rfl
theorem inBox_set (ds : List Nat) (k : Nat) (hk : k < 4) : (inBox ds).setIfInBounds k (.bool true) = inBox (ds ++ [k]) := by
  have : k = 0 ∨ k = 1 ∨ k = 2 ∨ k = 3 := by omega
  rcases this with rfl | rfl | rfl | rfl <;> simp [inBox]
/-- What the first loop holds. -/
structure KSt (w W : World) (ds : List Nat) : Prop where
  past : Below w.heap.size w W
  box : Box W w.heap.size 51 (inBox ds)
theorem KSt.next {w W W' : World} {ds : List Nat} (h : KSt w W ds) (hb : Below W.heap.size W W') : KSt w W' ds := ⟨h.past.trans (hb.mono h.past.size), h.box.next hb⟩
theorem KSt.put {w W : World} {ds : List Nat} (h : KSt w W ds) (k : Nat) (hk : k < 4) : KSt w (W.setCell ⟨w.heap.size, k, none⟩ (.bool true)) (ds ++ [k]) :=
  ⟨h.past.setCell (p := ⟨w.heap.size, k, none⟩) (Nat.le_refl _) _, by have := h.box.set k (.bool true); rwa [inBox_set ds k hk] at this⟩
theorem first_lt : ∀ (ks acc : List Nat) (i c : Nat), firstBad ks acc = some (i, c) → i < acc.length + ks.length ∧ c ≤ 6
  | [], acc, i, c, h => by simp [firstBad] at h
  | k :: r, acc, i, c, h => by
    unfold firstBad at h
    split at h
    · injection h with h; injection h with h1 h2; subst h1; subst h2; simp
    · split at h
      · injection h with h; injection h with h1 h2; subst h1; subst h2; simp
      · have := first_lt r _ i c h
        simp at this ⊢; omega
theorem bad_le (ds : List Nat) : badOf ds ≤ ds.length ∧ colOf ds ≤ 6 := by
  unfold badOf colOf
  cases h : firstBad ds [] with
  | none => exact ⟨Nat.zero_le _, Nat.zero_le _⟩
  | some p =>
    obtain ⟨i, c⟩ := p
    have := first_lt ds [] i c h
    simp at this
    exact ⟨by show i + 1 ≤ _; omega, this.2⟩
theorem kills_yes (ahead : Bool) (ds : List Nat) (h : ds.length ≤ 6) (hb : badOf ds = 0) : readL (killsT ahead ds) = .ok ⟨three, 1, 0, ds.map (fun k : Nat => (k : Int)), []⟩ := by
  rw [kills_read ahead ds h, bad_free hb]
theorem kills_no (ahead : Bool) (ds : List Nat) (h : ds.length ≤ 6) (hb : 0 < badOf ds) : readL (killsT ahead ds) = .error (2, (badOf ds : Int) + (if ahead = true then 4 else 1), (colOf ds : Int)) := by
  rw [kills_read ahead ds h]
  unfold badOf colOf at *
  cases hf : firstBad ds [] with
  | none => rw [hf] at hb; simp at hb
  | some p =>
    obtain ⟨i, c⟩ := p
    show (Except.error (2, killsLine ahead + (i : Int), (c : Int)) : Except (Int × Int × Int) Ven) = _
    have e : killsLine ahead + (i : Int) = ((i + 1 : Nat) : Int) + (if ahead = true then 4 else 1) := by
      unfold killsLine; cases ahead <;> simp <;> omega
    rw [e]
theorem ven_no (S : List UInt8) (p : Int × Int × Int) (hp : 0 < p.1) (hr : readL S = .error p) (w : World) (hL : Has0 w) : Calls Tryz.prog 11 #[.string ⟨S.toArray⟩] w fun e w' =>
    (∃ q, e = .returned (.tuple #[.agg #[.slice none 0 0, .int .i64 0, .int .i64 0, .slice none 0 0, .slice none 0 0], .iface 77 (.pointer (some ⟨q, 0, none⟩))])) ∧ Below w.heap.size w w' := by
  refine (venue_any S w hL.rng hL.et (fun q hq => by rw [hr] at hq; injection hq with hq; subst hq; exact hp)).mono ?_
  rintro e w' ⟨h, hb⟩
  rw [hr] at h
  obtain ⟨v, he, b, rfl, _⟩ := h
  exact ⟨⟨b, he⟩, hb⟩
theorem ven_yes (S : List UInt8) (ds : List Nat) (hr : readL S = .ok ⟨three, 1, 0, ds.map (fun k : Nat => (k : Int)), []⟩) (w : World) (hL : Has0 w) : Calls Tryz.prog 11 #[.string ⟨S.toArray⟩] w fun e w' =>
    (∃ sa sc ka kc pa pn pc, e = .returned (.tuple #[.agg #[.slice sa 3 sc, .int .i64 1, .int .i64 0, .slice ka (inL ds 3).length kc, .slice pa pn pc], .nilIface]) ∧
      (∀ W, Below w'.heap.size w' W → ∀ n (hn : n < (inL ds 3).length), ∃ kb ko, ka = some ⟨kb, ko, none⟩ ∧ kb < W.heap.size ∧ W.cell? ⟨kb, ko + n, none⟩ = some (.int .i64 (inL ds 3)[n]))) ∧ Below w.heap.size w w' := by
  refine (venue_any S w hL.rng hL.et (fun q hq => by rw [hr] at hq; cases hq)).mono ?_
  rintro e w' ⟨h, hb⟩
  rw [hr] at h
  obtain ⟨ord, ho, _, b1, m1, d1, b2, m2, d2, b3, m3, d3, rfl, hU⟩ := h
  have hn := norm_kills ds ho
  rw [hn] at hU
  have hA := hU.at
  have e1 : m1 = 3 := hA.s.len
  have e2 : m2 = (inL ds 3).length := hA.k.len
  subst e1 e2
  refine ⟨⟨b1, d1, b2, d2, b3, m3, d3, rfl, fun W hW n hn => ?_⟩, hb⟩
  obtain ⟨b, off, rfl, hC⟩ := Ven.cells_of_pos (hA.next hW).k (show n < (inL ds 3).length from hn)
  have c0 := hC.2 n hn 0 _ rfl
  simp only [Nat.mul_one, Nat.add_zero] at c0
  exact ⟨b, off, rfl, hC.1, c0⟩
set_option maxHeartbeats 16000000 in
theorem kills_law {w : World} (ao : Option Addr) (len cap : Nat) (zs : List Int) (hz : IsRow .i64 w ao len cap zs) (ahead : Bool) (w1 : World) (hL1 : Has0 w1) (hw : w = w1 := by rfl) :
    Calls Tryz.prog 6 #[.slice ao len cap, .bool ahead] w1 fun e w' => e = .returned (.bool true) ∧ Below w1.heap.size w1 w' := by
  subst hw
  have HL : Hid (Has0 w) := hL1
  obtain ⟨hlen, hI⟩ := ints_of hz 6
  have HI : Hid (Ints w ao (min len 6)) := hI
  clear hI hz hL1
  go_enter Tryz.func6, Tryz.ntmps6
  go_wp2
  go_loopw [6, 8, 9, 10] (fun s b c i wr => ∃ (ds : List Nat) (T : List UInt8) (bd cd : Nat), Hid (T = killsB ds ∧ (∀ k ∈ ds, k < 4) ∧ bd = badOf ds ∧ cd = colOf ds) ∧ bd ≤ 6 ∧ cd ≤ 6 ∧ T.length ≤ 60 ∧ ds.length ≤ len ∧ ds.length ≤ 6 ∧ i = .int .i64 ds.length ∧ s = .string ⟨T.toArray⟩ ∧ b = .int .i64 bd ∧ c = .int .i64 cd ∧ Hid (KSt w wr ds)) (fun _ _ _ i _ => 6 - (intOf i).toNat)
  case atStart =>
    exact ⟨[], [], 0, 0, ⟨rfl, by simp, rfl, rfl⟩, by omega, by omega, by simp, by simp, by simp, rfl, rfl, rfl, rfl, ⟨(Below.refl _ w).alloc (Nat.le_refl _) _, Box.fresh w _ _⟩⟩
  case round =>
    obtain ⟨ds, T, bd, cd, HD, hb6, hc6, hT, hdl, hd6, rfl, rfl, rfl, rfl, HS⟩ := hrel
    by_cases hgo : ds.length < len ∧ ds.length < 6
    · skip
      obtain ⟨h1, h2⟩ := hgo
      have h1z : (ds.length : Int) < len := by omega
      have h2z : (ds.length : Int) < 6 := by omega
      obtain ⟨b, off, rfl, hbl, z, hc⟩ : ∃ b off, ao = some ⟨b, off, none⟩ ∧ b < w.heap.size ∧ ∃ z, w.cell? ⟨b, off + ds.length, none⟩ = some (.int .i64 z) := by
        rcases HI.out with h | ⟨b, off, h3, h4, h5⟩
        · omega
        · exact ⟨b, off, h3, h4, h5 ds.length (by omega)⟩
      have hc1 : wr.cell? ⟨b, off + ds.length, none⟩ = some (.int .i64 z) := by rw [HS.out.past.cell (p := ⟨b, off + ds.length, none⟩) hbl]; exact hc
      clear hc
      obtain ⟨m, hm, em⟩ := mod_u64 z 4 (by omega)
      have hm4 : m < 4 := by omega
      have HTN : Hid (killsB (ds ++ [m]) = T ++ killB m ∧ (∀ k ∈ ds ++ [m], k < 4) ∧ (T ++ killB m).length ≤ 60) := by
        have e : killsB (ds ++ [m]) = T ++ killB m := by rw [kills_snoc, HD.out.1]
        refine ⟨e, fun k hk => ?_, ?_⟩
        · rcases List.mem_append.1 hk with hk | hk
          · exact HD.out.2.1 k hk
          · rw [List.mem_singleton] at hk; omega
        · have := kills_len (ds ++ [m])
          rw [e] at this; simp only [List.length_append, List.length_singleton] at this ⊢; omega
      have cin := HS.out.box.cell m _ (inBox_at ds m hm4)
      have cfr := HS.out.box.frozen m
      have clt := HS.out.box.lt
      have HN : Hid (KSt w (wr.setCell ⟨w.heap.size, m, none⟩ (.bool true)) (ds ++ [m])) := HS.out.put m hm4
      have hdn : (ds ++ [m]).length = ds.length + 1 := by simp
      have HKB : Hid (0 < bd → bd = badOf (ds ++ [m]) ∧ cd = colOf (ds ++ [m])) := fun h => by
        have := bad_keep (ds := ds) m (by rw [← HD.out.2.2.1]; exact h)
        rw [this.1, this.2]; exact ⟨HD.out.2.2.1, HD.out.2.2.2⟩
      have HKT : Hid (bd = 0 → m = 3 → ds.length + 1 = badOf (ds ++ [m]) ∧ 6 = colOf (ds ++ [m])) := fun h h3 => by
        subst h3
        have := bad_three (ds := ds) (by rw [← HD.out.2.2.1]; exact h)
        exact ⟨this.1.symm, this.2.symm⟩
      have HKA : Hid (bd = 0 → m < 3 → m ∈ ds → ds.length + 1 = badOf (ds ++ [m]) ∧ 1 = colOf (ds ++ [m])) := fun h h3 hx => by
        have := bad_again (ds := ds) (by rw [← HD.out.2.2.1]; exact h) m h3 hx
        exact ⟨this.1.symm, this.2.symm⟩
      have HKN : Hid (bd = 0 → m < 3 → ¬ m ∈ ds → 0 = badOf (ds ++ [m]) ∧ cd = colOf (ds ++ [m])) := fun h h3 hx => by
        have := bad_new (ds := ds) (by rw [← HD.out.2.2.1]; exact h) m h3 hx
        rw [this.2]
        exact ⟨this.1.symm, by rw [HD.out.2.2.2]; exact bad_col (by rw [← HD.out.2.2.1]; exact h)⟩
      clear HD
      have hms : m = 0 ∨ m = 1 ∨ m = 2 ∨ m = 3 := by omega
      generalize hds : ds ++ [m] = dn at *
      clear hds
      by_cases hbd : 0 < bd
      · have hbdz : ¬ ((bd : Int) = 0) := by omega
        have HK := hidK (HKB.out hbd)
        clear HKB HKT HKA HKN
        rcases hms with rfl | rfl | rfl | rfl
        · clear hm hm4
          go_wp2
          refine ⟨⟨dn, T ++ killB 0, bd, cd, ⟨HTN.out.1.symm, HTN.out.2.1, HK.out.1, HK.out.2⟩, by omega, by omega, HTN.out.2.2, by omega, by omega, by go_num, by simp [killB], rfl, rfl, HN.out.next ((Below.refl _ _).alloc (Nat.le_refl _) _)⟩, by simp [intOf]; omega⟩
        · clear hm hm4
          go_wp2
          refine ⟨⟨dn, T ++ killB 1, bd, cd, ⟨HTN.out.1.symm, HTN.out.2.1, HK.out.1, HK.out.2⟩, by omega, by omega, HTN.out.2.2, by omega, by omega, by go_num, by simp [killB], rfl, rfl, HN.out.next ((Below.refl _ _).alloc (Nat.le_refl _) _)⟩, by simp [intOf]; omega⟩
        · clear hm hm4
          go_wp2
          refine ⟨⟨dn, T ++ killB 2, bd, cd, ⟨HTN.out.1.symm, HTN.out.2.1, HK.out.1, HK.out.2⟩, by omega, by omega, HTN.out.2.2, by omega, by omega, by go_num, by simp [killB], rfl, rfl, HN.out.next ((Below.refl _ _).alloc (Nat.le_refl _) _)⟩, by simp [intOf]; omega⟩
        · clear hm hm4
          go_wp2
          refine ⟨⟨dn, T ++ killB 3, bd, cd, ⟨HTN.out.1.symm, HTN.out.2.1, HK.out.1, HK.out.2⟩, by omega, by omega, HTN.out.2.2, by omega, by omega, by go_num, by simp [killB], rfl, rfl, HN.out.next ((Below.refl _ _).alloc (Nat.le_refl _) _)⟩, by simp [intOf]; omega⟩
      · have hb0 : bd = 0 := by omega
        subst hb0
        clear HKB hbd
        rcases hms with rfl | rfl | rfl | rfl
        · by_cases hin : 0 ∈ ds
          · have HK := hidK (HKA.out rfl (by omega) hin)
            have cin' : wr.cell? ⟨w.heap.size, 0, none⟩ = some (.bool true) := by rw [cin, decide_eq_true hin]
            clear HKT HKA HKN cin hin hm hm4
            go_wp2
            refine ⟨⟨dn, T ++ killB 0, ds.length + 1, 1, ⟨HTN.out.1.symm, HTN.out.2.1, HK.out.1, HK.out.2⟩, by omega, by omega, HTN.out.2.2, by omega, by omega, by go_num, by simp [killB], rfl, rfl, HN.out.next ((Below.refl _ _).alloc (Nat.le_refl _) _)⟩, by simp [intOf]; omega⟩
          · have HK := hidK (HKN.out rfl (by omega) hin)
            have cin' : wr.cell? ⟨w.heap.size, 0, none⟩ = some (.bool false) := by rw [cin, decide_eq_false hin]
            clear HKT HKA HKN cin hin hm hm4
            go_wp2
            refine ⟨⟨dn, T ++ killB 0, 0, cd, ⟨HTN.out.1.symm, HTN.out.2.1, HK.out.1, HK.out.2⟩, by omega, by omega, HTN.out.2.2, by omega, by omega, by go_num, by simp [killB], rfl, rfl, HN.out.next ((Below.refl _ _).alloc (Nat.le_refl _) _)⟩, by simp [intOf]; omega⟩
        · by_cases hin : 1 ∈ ds
          · have HK := hidK (HKA.out rfl (by omega) hin)
            have cin' : wr.cell? ⟨w.heap.size, 1, none⟩ = some (.bool true) := by rw [cin, decide_eq_true hin]
            clear HKT HKA HKN cin hin hm hm4
            go_wp2
            refine ⟨⟨dn, T ++ killB 1, ds.length + 1, 1, ⟨HTN.out.1.symm, HTN.out.2.1, HK.out.1, HK.out.2⟩, by omega, by omega, HTN.out.2.2, by omega, by omega, by go_num, by simp [killB], rfl, rfl, HN.out.next ((Below.refl _ _).alloc (Nat.le_refl _) _)⟩, by simp [intOf]; omega⟩
          · have HK := hidK (HKN.out rfl (by omega) hin)
            have cin' : wr.cell? ⟨w.heap.size, 1, none⟩ = some (.bool false) := by rw [cin, decide_eq_false hin]
            clear HKT HKA HKN cin hin hm hm4
            go_wp2
            refine ⟨⟨dn, T ++ killB 1, 0, cd, ⟨HTN.out.1.symm, HTN.out.2.1, HK.out.1, HK.out.2⟩, by omega, by omega, HTN.out.2.2, by omega, by omega, by go_num, by simp [killB], rfl, rfl, HN.out.next ((Below.refl _ _).alloc (Nat.le_refl _) _)⟩, by simp [intOf]; omega⟩
        · by_cases hin : 2 ∈ ds
          · have HK := hidK (HKA.out rfl (by omega) hin)
            have cin' : wr.cell? ⟨w.heap.size, 2, none⟩ = some (.bool true) := by rw [cin, decide_eq_true hin]
            clear HKT HKA HKN cin hin hm hm4
            go_wp2
            refine ⟨⟨dn, T ++ killB 2, ds.length + 1, 1, ⟨HTN.out.1.symm, HTN.out.2.1, HK.out.1, HK.out.2⟩, by omega, by omega, HTN.out.2.2, by omega, by omega, by go_num, by simp [killB], rfl, rfl, HN.out.next ((Below.refl _ _).alloc (Nat.le_refl _) _)⟩, by simp [intOf]; omega⟩
          · have HK := hidK (HKN.out rfl (by omega) hin)
            have cin' : wr.cell? ⟨w.heap.size, 2, none⟩ = some (.bool false) := by rw [cin, decide_eq_false hin]
            clear HKT HKA HKN cin hin hm hm4
            go_wp2
            refine ⟨⟨dn, T ++ killB 2, 0, cd, ⟨HTN.out.1.symm, HTN.out.2.1, HK.out.1, HK.out.2⟩, by omega, by omega, HTN.out.2.2, by omega, by omega, by go_num, by simp [killB], rfl, rfl, HN.out.next ((Below.refl _ _).alloc (Nat.le_refl _) _)⟩, by simp [intOf]; omega⟩
        · have HK := hidK (HKT.out rfl rfl)
          clear HKA HKN HKT hm hm4
          go_wp2
          refine ⟨⟨dn, T ++ killB 3, ds.length + 1, 6, ⟨HTN.out.1.symm, HTN.out.2.1, HK.out.1, HK.out.2⟩, by omega, by omega, HTN.out.2.2, by omega, by omega, by go_num, by simp [killB], rfl, rfl, HN.out.next ((Below.refl _ _).alloc (Nat.le_refl _) _)⟩, by simp [intOf]; omega⟩
    · have HSL := hidK (killsT_len ahead ds hd6)
      have hcases : ¬ ((ds.length : Int) < len) ∨ ((ds.length : Int) < len ∧ ¬ (ds.length : Int) < 6) := by omega
      clear hgo HI
      rcases hcases with h1z | ⟨h1z, h2z⟩
      · cases ahead
        · skip
          go_wp2_with fail
          generalize hX : (103 :: 97 :: 112 :: 32 :: 49 :: 10 :: (T ++ [115, 101, 97, 116, 32, 48, 32, 48, 32, 48, 10, 115, 101, 97, 116, 32, 48, 32, 49, 48, 32, 48, 10, 115, 101, 97, 116, 32, 48, 32, 50, 48, 32, 48, 10])) = S
          have hS : S = killsT false ds := by rw [← hX, HD.out.1]; rfl
          have HHS := hidK hS
          clear hX hS
          have hck0 := check_any S wr (HL.out.next HS.out.past).rng (HL.out.next HS.out.past).et
          by_cases hb0 : bd = 0
          · have HR : Hid (readL S = .ok ⟨three, 1, 0, ds.map (fun k : Nat => (k : Int)), []⟩) := by rw [HHS.out]; exact kills_yes false ds hd6 (by rw [← HD.out.2.2.1]; exact hb0)
            rw [HR.out] at hck0
            have hck : Calls Tryz.prog 10 #[.string ⟨S.toArray⟩] wr fun e w' => e = .returned (.tuple #[.int .i64 0, .agg #[.int .i64 0, .int .i64 0]]) ∧ Below wr.heap.size wr w' := hck0
            clear hck0
            subst hb0
            refine hck.mono ?_
            rintro e w1 ⟨rfl, hb1⟩
            have HS1 : Hid (KSt w w1 ds) := HS.out.next hb1
            clear hck hb1 HS
            go_wp2_with fail
            have HB2 := hidK (below_alloc w1 (.cells #[.int .i64 0, .int .i64 0] 27))
            have HP2 := hidK (Box.fresh w1 27 #[.int .i64 0, .int .i64 0])
            generalize w1.alloc (.cells #[.int .i64 0, .int .i64 0] 27) = w2 at HB2 HP2 ⊢
            generalize hq0 : w1.heap.size = q0 at HP2 ⊢
            have HS2 : Hid (KSt w w2 ds) := HS1.out.next HB2.out
            clear hq0 HB2 HS1
            have hven := ven_yes S ds HR.out w2 (HL.out.next HS2.out.past)
            refine hven.mono ?_
            clear hven
            rintro e w3 ⟨⟨sa, sc, ka, kc, pa, pn, pc, rfl, hK⟩, hb3⟩
            have HS3 : Hid (KSt w w3 ds) := HS2.out.next hb3
            have HP3 := hidK (HP2.out.next hb3)
            clear hb3 HS2 HP2 HR
            go_wp2_with fail
            have HBW := hidK (below_alloc w3 (.cells #[.slice sa 3 sc, .int .i64 1, .int .i64 0, .slice ka (inL ds 3).length kc, .slice pa pn pc] 33))
            have HVW := hidK (Box.fresh w3 33 #[.slice sa 3 sc, .int .i64 1, .int .i64 0, .slice ka (inL ds 3).length kc, .slice pa pn pc])
            generalize w3.alloc (.cells #[.slice sa 3 sc, .int .i64 1, .int .i64 0, .slice ka (inL ds 3).length kc, .slice pa pn pc] 33) = W at HBW HVW ⊢
            generalize hq1 : w3.heap.size = q1 at HVW ⊢
            have HSW : Hid (KSt w W ds) := HS3.out.next HBW.out
            have HPW := hidK (HP3.out.next HBW.out)
            have HKW : Hid (∀ n (hn : n < (inL ds 3).length), ∃ kb ko, ka = some ⟨kb, ko, none⟩ ∧ kb < W.heap.size ∧ W.cell? ⟨kb, ko + n, none⟩ = some (.int .i64 (inL ds 3)[n])) := hK W HBW.out
            clear hq1 HBW HS3 HP3 hK
            have HK3 : Hid ((inL ds 3).length ≤ 3) := inL_len ds 3
            go_loopw [18, 19] (fun s i wy => ∃ k : Nat, W = wy ∧ k ≤ 3 ∧ i = .int .i64 k ∧ s = .int .i64 (inL ds k).length) (fun _ i _ => 3 - (intOf i).toNat)
            case atStart => exact ⟨0, rfl, by omega, rfl, rfl⟩
            case round =>
              obtain ⟨k, rfl, hk, rfl, rfl⟩ := hrel
              have i0 := HVW.out.five
              obtain ⟨i0, i1, i2, i3, i4⟩ := i0
              have il := HVW.out.lt
              by_cases hk3 : k < 3
              · have hk3z : (k : Int) < 3 := by omega
                have cin := HSW.out.box.cell k _ (inBox_at ds k (by omega))
                have clt := HSW.out.box.lt
                have hnk := inL_len ds k
                by_cases hin : k ∈ ds
                · obtain ⟨hn, hval, hnext⟩ := inL_hit ds k hk3 hin
                  obtain ⟨kb, ko, rfl, hkb, hcell⟩ := HKW.out (inL ds k).length hn
                  rw [decide_eq_true hin] at cin
                  rw [hval] at hcell
                  have HNX := hidK hnext
                  clear hnext hval hin
                  generalize (inL ds k).length = n at hn hcell HNX hnk ⊢
                  generalize (inL ds 3).length = m at hn i3 ⊢
                  have hnz : ¬ ((n : Int) ≥ (m : Int)) := by omega
                  have hnz2 : (n : Int) < (m : Int) := by omega
                  go_wp2
                  refine ⟨⟨k + 1, trivial, by omega, by go_num, ?_⟩, by simp [intOf]; omega⟩
                  rw [HNX.out]; go_num
                · have hnext := inL_miss ds k hin
                  rw [decide_eq_false hin] at cin
                  have HNX := hidK hnext
                  clear hnext hin
                  go_wp2
                  refine ⟨⟨k + 1, trivial, by omega, by go_num, ?_⟩, by simp [intOf]; omega⟩
                  rw [HNX.out]
              · have hk3z : ¬ (k : Int) < 3 := by omega
                have hk3e : k = 3 := by omega
                subst hk3e
                have hk3 := HK3.out
                generalize (inL ds 3).length = m at i3 HVW hk3 ⊢
                go_wp2_with fail
                refine (told_any _ (HL.out.next HSW.out.past)).mono ?_
                rintro e w9 ⟨rfl, hb9⟩
                have HB9 : Hid (Below w.heap.size w w9) := HSW.out.past.trans (hb9.mono HSW.out.past.size)
                have j0 := (HVW.out.next hb9).five
                obtain ⟨j0, j1, j2, j3, j4⟩ := j0
                have jl := (HVW.out.next hb9).lt
                clear hb9 i0 i1 i2 i3 i4 il
                go_wp2
                go_ret
                exact ⟨rfl, HB9.out⟩
          · have HR : Hid (readL S = .error (2, (bd : Int) + 1, (cd : Int))) := by
              have := kills_no false ds hd6 (by rw [← HD.out.2.2.1]; omega)
              rw [HHS.out, this, HD.out.2.2.1, HD.out.2.2.2]; rfl
            rw [HR.out] at hck0
            have hck : Calls Tryz.prog 10 #[.string ⟨S.toArray⟩] wr fun e w' => e = .returned (.tuple #[.int .i64 2, .agg #[.int .i64 ((bd : Int) + 1), .int .i64 (cd : Int)]]) ∧ Below wr.heap.size wr w' := hck0
            clear hck0
            have hbz : (0 : Int) < (bd : Int) := by omega
            refine hck.mono ?_
            rintro e w1 ⟨rfl, hb1⟩
            have HS1 : Hid (KSt w w1 ds) := HS.out.next hb1
            clear hck hb1 HS
            go_wp2_with fail
            have HB2 := hidK (below_alloc w1 (.cells #[.int .i64 ((bd : Int) + 1), .int .i64 (cd : Int)] 27))
            have HP2 := hidK (Box.fresh w1 27 #[.int .i64 ((bd : Int) + 1), .int .i64 (cd : Int)])
            generalize w1.alloc (.cells #[.int .i64 ((bd : Int) + 1), .int .i64 (cd : Int)] 27) = w2 at HB2 HP2 ⊢
            generalize hq0 : w1.heap.size = q0 at HP2 ⊢
            have HS2 : Hid (KSt w w2 ds) := HS1.out.next HB2.out
            clear hq0 HB2 HS1
            have hven := ven_no S (2, (bd : Int) + 1, (cd : Int)) (by show (0 : Int) < 2; omega) HR.out w2 (HL.out.next HS2.out.past)
            refine hven.mono ?_
            clear hven
            rintro e w3 ⟨⟨q, rfl⟩, hb3⟩
            have HS3 : Hid (KSt w w3 ds) := HS2.out.next hb3
            have HP3 := hidK (HP2.out.next hb3)
            clear hb3 HS2 HP2 HR
            go_wp2_with fail
            have HBW := hidK (below_alloc w3 (.cells #[.slice none 0 0, .int .i64 0, .int .i64 0, .slice none 0 0, .slice none 0 0] 33))
            have HVW := hidK (Box.fresh w3 33 #[.slice none 0 0, .int .i64 0, .int .i64 0, .slice none 0 0, .slice none 0 0])
            generalize w3.alloc (.cells #[.slice none 0 0, .int .i64 0, .int .i64 0, .slice none 0 0, .slice none 0 0] 33) = W at HBW HVW ⊢
            generalize hq1 : w3.heap.size = q1 at HVW ⊢
            have HSW : Hid (KSt w W ds) := HS3.out.next HBW.out
            have HPW := hidK (HP3.out.next HBW.out)
            clear hq1 HBW HS3 HP3
            go_wp2_with fail
            refine (told_any _ (HL.out.next HSW.out.past)).mono ?_
            rintro e w9 ⟨rfl, hb9⟩
            have HB9 : Hid (Below w.heap.size w w9) := HSW.out.past.trans (hb9.mono HSW.out.past.size)
            have j0 := (HVW.out.next hb9).five
            obtain ⟨j0, j1, j2, j3, j4⟩ := j0
            have jl := (HVW.out.next hb9).lt
            have p0 := (HPW.out.next hb9).cell 0 _ rfl
            have p1 := (HPW.out.next hb9).cell 1 _ rfl
            have pl := (HPW.out.next hb9).lt
            clear hb9
            go_wp2
            go_ret
            exact ⟨rfl, HB9.out⟩
        · skip
          go_wp2_with fail
          generalize hX : (103 :: 97 :: 112 :: 32 :: 49 :: 10 :: 115 :: 101 :: 97 :: 116 :: 32 :: 48 :: 32 :: 48 :: 32 :: 48 :: 10 :: 115 :: 101 :: 97 :: 116 :: 32 :: 48 :: 32 :: 49 :: 48 :: 32 :: 48 :: 10 :: 115 :: 101 :: 97 :: 116 :: 32 :: 48 :: 32 :: 50 :: 48 :: 32 :: 48 :: 10 :: T) = S
          have hS : S = killsT true ds := by rw [← hX, HD.out.1]; rfl
          have HHS := hidK hS
          clear hX hS
          have hck0 := check_any S wr (HL.out.next HS.out.past).rng (HL.out.next HS.out.past).et
          by_cases hb0 : bd = 0
          · have HR : Hid (readL S = .ok ⟨three, 1, 0, ds.map (fun k : Nat => (k : Int)), []⟩) := by rw [HHS.out]; exact kills_yes true ds hd6 (by rw [← HD.out.2.2.1]; exact hb0)
            rw [HR.out] at hck0
            have hck : Calls Tryz.prog 10 #[.string ⟨S.toArray⟩] wr fun e w' => e = .returned (.tuple #[.int .i64 0, .agg #[.int .i64 0, .int .i64 0]]) ∧ Below wr.heap.size wr w' := hck0
            clear hck0
            subst hb0
            refine hck.mono ?_
            rintro e w1 ⟨rfl, hb1⟩
            have HS1 : Hid (KSt w w1 ds) := HS.out.next hb1
            clear hck hb1 HS
            go_wp2_with fail
            have HB2 := hidK (below_alloc w1 (.cells #[.int .i64 0, .int .i64 0] 27))
            have HP2 := hidK (Box.fresh w1 27 #[.int .i64 0, .int .i64 0])
            generalize w1.alloc (.cells #[.int .i64 0, .int .i64 0] 27) = w2 at HB2 HP2 ⊢
            generalize hq0 : w1.heap.size = q0 at HP2 ⊢
            have HS2 : Hid (KSt w w2 ds) := HS1.out.next HB2.out
            clear hq0 HB2 HS1
            have hven := ven_yes S ds HR.out w2 (HL.out.next HS2.out.past)
            refine hven.mono ?_
            clear hven
            rintro e w3 ⟨⟨sa, sc, ka, kc, pa, pn, pc, rfl, hK⟩, hb3⟩
            have HS3 : Hid (KSt w w3 ds) := HS2.out.next hb3
            have HP3 := hidK (HP2.out.next hb3)
            clear hb3 HS2 HP2 HR
            go_wp2_with fail
            have HBW := hidK (below_alloc w3 (.cells #[.slice sa 3 sc, .int .i64 1, .int .i64 0, .slice ka (inL ds 3).length kc, .slice pa pn pc] 33))
            have HVW := hidK (Box.fresh w3 33 #[.slice sa 3 sc, .int .i64 1, .int .i64 0, .slice ka (inL ds 3).length kc, .slice pa pn pc])
            generalize w3.alloc (.cells #[.slice sa 3 sc, .int .i64 1, .int .i64 0, .slice ka (inL ds 3).length kc, .slice pa pn pc] 33) = W at HBW HVW ⊢
            generalize hq1 : w3.heap.size = q1 at HVW ⊢
            have HSW : Hid (KSt w W ds) := HS3.out.next HBW.out
            have HPW := hidK (HP3.out.next HBW.out)
            have HKW : Hid (∀ n (hn : n < (inL ds 3).length), ∃ kb ko, ka = some ⟨kb, ko, none⟩ ∧ kb < W.heap.size ∧ W.cell? ⟨kb, ko + n, none⟩ = some (.int .i64 (inL ds 3)[n])) := hK W HBW.out
            clear hq1 HBW HS3 HP3 hK
            have HK3 : Hid ((inL ds 3).length ≤ 3) := inL_len ds 3
            go_loopw [18, 19] (fun s i wy => ∃ k : Nat, W = wy ∧ k ≤ 3 ∧ i = .int .i64 k ∧ s = .int .i64 (inL ds k).length) (fun _ i _ => 3 - (intOf i).toNat)
            case atStart => exact ⟨0, rfl, by omega, rfl, rfl⟩
            case round =>
              obtain ⟨k, rfl, hk, rfl, rfl⟩ := hrel
              have i0 := HVW.out.five
              obtain ⟨i0, i1, i2, i3, i4⟩ := i0
              have il := HVW.out.lt
              by_cases hk3 : k < 3
              · have hk3z : (k : Int) < 3 := by omega
                have cin := HSW.out.box.cell k _ (inBox_at ds k (by omega))
                have clt := HSW.out.box.lt
                have hnk := inL_len ds k
                by_cases hin : k ∈ ds
                · obtain ⟨hn, hval, hnext⟩ := inL_hit ds k hk3 hin
                  obtain ⟨kb, ko, rfl, hkb, hcell⟩ := HKW.out (inL ds k).length hn
                  rw [decide_eq_true hin] at cin
                  rw [hval] at hcell
                  have HNX := hidK hnext
                  clear hnext hval hin
                  generalize (inL ds k).length = n at hn hcell HNX hnk ⊢
                  generalize (inL ds 3).length = m at hn i3 ⊢
                  have hnz : ¬ ((n : Int) ≥ (m : Int)) := by omega
                  have hnz2 : (n : Int) < (m : Int) := by omega
                  go_wp2
                  refine ⟨⟨k + 1, trivial, by omega, by go_num, ?_⟩, by simp [intOf]; omega⟩
                  rw [HNX.out]; go_num
                · have hnext := inL_miss ds k hin
                  rw [decide_eq_false hin] at cin
                  have HNX := hidK hnext
                  clear hnext hin
                  go_wp2
                  refine ⟨⟨k + 1, trivial, by omega, by go_num, ?_⟩, by simp [intOf]; omega⟩
                  rw [HNX.out]
              · have hk3z : ¬ (k : Int) < 3 := by omega
                have hk3e : k = 3 := by omega
                subst hk3e
                have hk3 := HK3.out
                generalize (inL ds 3).length = m at i3 HVW hk3 ⊢
                go_wp2_with fail
                refine (told_any _ (HL.out.next HSW.out.past)).mono ?_
                rintro e w9 ⟨rfl, hb9⟩
                have HB9 : Hid (Below w.heap.size w w9) := HSW.out.past.trans (hb9.mono HSW.out.past.size)
                have j0 := (HVW.out.next hb9).five
                obtain ⟨j0, j1, j2, j3, j4⟩ := j0
                have jl := (HVW.out.next hb9).lt
                clear hb9 i0 i1 i2 i3 i4 il
                go_wp2
                go_ret
                exact ⟨rfl, HB9.out⟩
          · have HR : Hid (readL S = .error (2, (bd : Int) + 4, (cd : Int))) := by
              have := kills_no true ds hd6 (by rw [← HD.out.2.2.1]; omega)
              rw [HHS.out, this, HD.out.2.2.1, HD.out.2.2.2]; rfl
            rw [HR.out] at hck0
            have hck : Calls Tryz.prog 10 #[.string ⟨S.toArray⟩] wr fun e w' => e = .returned (.tuple #[.int .i64 2, .agg #[.int .i64 ((bd : Int) + 4), .int .i64 (cd : Int)]]) ∧ Below wr.heap.size wr w' := hck0
            clear hck0
            have hbz : (0 : Int) < (bd : Int) := by omega
            refine hck.mono ?_
            rintro e w1 ⟨rfl, hb1⟩
            have HS1 : Hid (KSt w w1 ds) := HS.out.next hb1
            clear hck hb1 HS
            go_wp2_with fail
            have HB2 := hidK (below_alloc w1 (.cells #[.int .i64 ((bd : Int) + 4), .int .i64 (cd : Int)] 27))
            have HP2 := hidK (Box.fresh w1 27 #[.int .i64 ((bd : Int) + 4), .int .i64 (cd : Int)])
            generalize w1.alloc (.cells #[.int .i64 ((bd : Int) + 4), .int .i64 (cd : Int)] 27) = w2 at HB2 HP2 ⊢
            generalize hq0 : w1.heap.size = q0 at HP2 ⊢
            have HS2 : Hid (KSt w w2 ds) := HS1.out.next HB2.out
            clear hq0 HB2 HS1
            have hven := ven_no S (2, (bd : Int) + 4, (cd : Int)) (by show (0 : Int) < 2; omega) HR.out w2 (HL.out.next HS2.out.past)
            refine hven.mono ?_
            clear hven
            rintro e w3 ⟨⟨q, rfl⟩, hb3⟩
            have HS3 : Hid (KSt w w3 ds) := HS2.out.next hb3
            have HP3 := hidK (HP2.out.next hb3)
            clear hb3 HS2 HP2 HR
            go_wp2_with fail
            have HBW := hidK (below_alloc w3 (.cells #[.slice none 0 0, .int .i64 0, .int .i64 0, .slice none 0 0, .slice none 0 0] 33))
            have HVW := hidK (Box.fresh w3 33 #[.slice none 0 0, .int .i64 0, .int .i64 0, .slice none 0 0, .slice none 0 0])
            generalize w3.alloc (.cells #[.slice none 0 0, .int .i64 0, .int .i64 0, .slice none 0 0, .slice none 0 0] 33) = W at HBW HVW ⊢
            generalize hq1 : w3.heap.size = q1 at HVW ⊢
            have HSW : Hid (KSt w W ds) := HS3.out.next HBW.out
            have HPW := hidK (HP3.out.next HBW.out)
            clear hq1 HBW HS3 HP3
            go_wp2_with fail
            refine (told_any _ (HL.out.next HSW.out.past)).mono ?_
            rintro e w9 ⟨rfl, hb9⟩
            have HB9 : Hid (Below w.heap.size w w9) := HSW.out.past.trans (hb9.mono HSW.out.past.size)
            have j0 := (HVW.out.next hb9).five
            obtain ⟨j0, j1, j2, j3, j4⟩ := j0
            have jl := (HVW.out.next hb9).lt
            have p0 := (HPW.out.next hb9).cell 0 _ rfl
            have p1 := (HPW.out.next hb9).cell 1 _ rfl
            have pl := (HPW.out.next hb9).lt
            clear hb9
            go_wp2
            go_ret
            exact ⟨rfl, HB9.out⟩
      · cases ahead
        · skip
          go_wp2_with fail
          generalize hX : (103 :: 97 :: 112 :: 32 :: 49 :: 10 :: (T ++ [115, 101, 97, 116, 32, 48, 32, 48, 32, 48, 10, 115, 101, 97, 116, 32, 48, 32, 49, 48, 32, 48, 10, 115, 101, 97, 116, 32, 48, 32, 50, 48, 32, 48, 10])) = S
          have hS : S = killsT false ds := by rw [← hX, HD.out.1]; rfl
          have HHS := hidK hS
          clear hX hS
          have hck0 := check_any S wr (HL.out.next HS.out.past).rng (HL.out.next HS.out.past).et
          by_cases hb0 : bd = 0
          · have HR : Hid (readL S = .ok ⟨three, 1, 0, ds.map (fun k : Nat => (k : Int)), []⟩) := by rw [HHS.out]; exact kills_yes false ds hd6 (by rw [← HD.out.2.2.1]; exact hb0)
            rw [HR.out] at hck0
            have hck : Calls Tryz.prog 10 #[.string ⟨S.toArray⟩] wr fun e w' => e = .returned (.tuple #[.int .i64 0, .agg #[.int .i64 0, .int .i64 0]]) ∧ Below wr.heap.size wr w' := hck0
            clear hck0
            subst hb0
            refine hck.mono ?_
            rintro e w1 ⟨rfl, hb1⟩
            have HS1 : Hid (KSt w w1 ds) := HS.out.next hb1
            clear hck hb1 HS
            go_wp2_with fail
            have HB2 := hidK (below_alloc w1 (.cells #[.int .i64 0, .int .i64 0] 27))
            have HP2 := hidK (Box.fresh w1 27 #[.int .i64 0, .int .i64 0])
            generalize w1.alloc (.cells #[.int .i64 0, .int .i64 0] 27) = w2 at HB2 HP2 ⊢
            generalize hq0 : w1.heap.size = q0 at HP2 ⊢
            have HS2 : Hid (KSt w w2 ds) := HS1.out.next HB2.out
            clear hq0 HB2 HS1
            have hven := ven_yes S ds HR.out w2 (HL.out.next HS2.out.past)
            refine hven.mono ?_
            clear hven
            rintro e w3 ⟨⟨sa, sc, ka, kc, pa, pn, pc, rfl, hK⟩, hb3⟩
            have HS3 : Hid (KSt w w3 ds) := HS2.out.next hb3
            have HP3 := hidK (HP2.out.next hb3)
            clear hb3 HS2 HP2 HR
            go_wp2_with fail
            have HBW := hidK (below_alloc w3 (.cells #[.slice sa 3 sc, .int .i64 1, .int .i64 0, .slice ka (inL ds 3).length kc, .slice pa pn pc] 33))
            have HVW := hidK (Box.fresh w3 33 #[.slice sa 3 sc, .int .i64 1, .int .i64 0, .slice ka (inL ds 3).length kc, .slice pa pn pc])
            generalize w3.alloc (.cells #[.slice sa 3 sc, .int .i64 1, .int .i64 0, .slice ka (inL ds 3).length kc, .slice pa pn pc] 33) = W at HBW HVW ⊢
            generalize hq1 : w3.heap.size = q1 at HVW ⊢
            have HSW : Hid (KSt w W ds) := HS3.out.next HBW.out
            have HPW := hidK (HP3.out.next HBW.out)
            have HKW : Hid (∀ n (hn : n < (inL ds 3).length), ∃ kb ko, ka = some ⟨kb, ko, none⟩ ∧ kb < W.heap.size ∧ W.cell? ⟨kb, ko + n, none⟩ = some (.int .i64 (inL ds 3)[n])) := hK W HBW.out
            clear hq1 HBW HS3 HP3 hK
            have HK3 : Hid ((inL ds 3).length ≤ 3) := inL_len ds 3
            go_loopw [18, 19] (fun s i wy => ∃ k : Nat, W = wy ∧ k ≤ 3 ∧ i = .int .i64 k ∧ s = .int .i64 (inL ds k).length) (fun _ i _ => 3 - (intOf i).toNat)
            case atStart => exact ⟨0, rfl, by omega, rfl, rfl⟩
            case round =>
              obtain ⟨k, rfl, hk, rfl, rfl⟩ := hrel
              have i0 := HVW.out.five
              obtain ⟨i0, i1, i2, i3, i4⟩ := i0
              have il := HVW.out.lt
              by_cases hk3 : k < 3
              · have hk3z : (k : Int) < 3 := by omega
                have cin := HSW.out.box.cell k _ (inBox_at ds k (by omega))
                have clt := HSW.out.box.lt
                have hnk := inL_len ds k
                by_cases hin : k ∈ ds
                · obtain ⟨hn, hval, hnext⟩ := inL_hit ds k hk3 hin
                  obtain ⟨kb, ko, rfl, hkb, hcell⟩ := HKW.out (inL ds k).length hn
                  rw [decide_eq_true hin] at cin
                  rw [hval] at hcell
                  have HNX := hidK hnext
                  clear hnext hval hin
                  generalize (inL ds k).length = n at hn hcell HNX hnk ⊢
                  generalize (inL ds 3).length = m at hn i3 ⊢
                  have hnz : ¬ ((n : Int) ≥ (m : Int)) := by omega
                  have hnz2 : (n : Int) < (m : Int) := by omega
                  go_wp2
                  refine ⟨⟨k + 1, trivial, by omega, by go_num, ?_⟩, by simp [intOf]; omega⟩
                  rw [HNX.out]; go_num
                · have hnext := inL_miss ds k hin
                  rw [decide_eq_false hin] at cin
                  have HNX := hidK hnext
                  clear hnext hin
                  go_wp2
                  refine ⟨⟨k + 1, trivial, by omega, by go_num, ?_⟩, by simp [intOf]; omega⟩
                  rw [HNX.out]
              · have hk3z : ¬ (k : Int) < 3 := by omega
                have hk3e : k = 3 := by omega
                subst hk3e
                have hk3 := HK3.out
                generalize (inL ds 3).length = m at i3 HVW hk3 ⊢
                go_wp2_with fail
                refine (told_any _ (HL.out.next HSW.out.past)).mono ?_
                rintro e w9 ⟨rfl, hb9⟩
                have HB9 : Hid (Below w.heap.size w w9) := HSW.out.past.trans (hb9.mono HSW.out.past.size)
                have j0 := (HVW.out.next hb9).five
                obtain ⟨j0, j1, j2, j3, j4⟩ := j0
                have jl := (HVW.out.next hb9).lt
                clear hb9 i0 i1 i2 i3 i4 il
                go_wp2
                go_ret
                exact ⟨rfl, HB9.out⟩
          · have HR : Hid (readL S = .error (2, (bd : Int) + 1, (cd : Int))) := by
              have := kills_no false ds hd6 (by rw [← HD.out.2.2.1]; omega)
              rw [HHS.out, this, HD.out.2.2.1, HD.out.2.2.2]; rfl
            rw [HR.out] at hck0
            have hck : Calls Tryz.prog 10 #[.string ⟨S.toArray⟩] wr fun e w' => e = .returned (.tuple #[.int .i64 2, .agg #[.int .i64 ((bd : Int) + 1), .int .i64 (cd : Int)]]) ∧ Below wr.heap.size wr w' := hck0
            clear hck0
            have hbz : (0 : Int) < (bd : Int) := by omega
            refine hck.mono ?_
            rintro e w1 ⟨rfl, hb1⟩
            have HS1 : Hid (KSt w w1 ds) := HS.out.next hb1
            clear hck hb1 HS
            go_wp2_with fail
            have HB2 := hidK (below_alloc w1 (.cells #[.int .i64 ((bd : Int) + 1), .int .i64 (cd : Int)] 27))
            have HP2 := hidK (Box.fresh w1 27 #[.int .i64 ((bd : Int) + 1), .int .i64 (cd : Int)])
            generalize w1.alloc (.cells #[.int .i64 ((bd : Int) + 1), .int .i64 (cd : Int)] 27) = w2 at HB2 HP2 ⊢
            generalize hq0 : w1.heap.size = q0 at HP2 ⊢
            have HS2 : Hid (KSt w w2 ds) := HS1.out.next HB2.out
            clear hq0 HB2 HS1
            have hven := ven_no S (2, (bd : Int) + 1, (cd : Int)) (by show (0 : Int) < 2; omega) HR.out w2 (HL.out.next HS2.out.past)
            refine hven.mono ?_
            clear hven
            rintro e w3 ⟨⟨q, rfl⟩, hb3⟩
            have HS3 : Hid (KSt w w3 ds) := HS2.out.next hb3
            have HP3 := hidK (HP2.out.next hb3)
            clear hb3 HS2 HP2 HR
            go_wp2_with fail
            have HBW := hidK (below_alloc w3 (.cells #[.slice none 0 0, .int .i64 0, .int .i64 0, .slice none 0 0, .slice none 0 0] 33))
            have HVW := hidK (Box.fresh w3 33 #[.slice none 0 0, .int .i64 0, .int .i64 0, .slice none 0 0, .slice none 0 0])
            generalize w3.alloc (.cells #[.slice none 0 0, .int .i64 0, .int .i64 0, .slice none 0 0, .slice none 0 0] 33) = W at HBW HVW ⊢
            generalize hq1 : w3.heap.size = q1 at HVW ⊢
            have HSW : Hid (KSt w W ds) := HS3.out.next HBW.out
            have HPW := hidK (HP3.out.next HBW.out)
            clear hq1 HBW HS3 HP3
            go_wp2_with fail
            refine (told_any _ (HL.out.next HSW.out.past)).mono ?_
            rintro e w9 ⟨rfl, hb9⟩
            have HB9 : Hid (Below w.heap.size w w9) := HSW.out.past.trans (hb9.mono HSW.out.past.size)
            have j0 := (HVW.out.next hb9).five
            obtain ⟨j0, j1, j2, j3, j4⟩ := j0
            have jl := (HVW.out.next hb9).lt
            have p0 := (HPW.out.next hb9).cell 0 _ rfl
            have p1 := (HPW.out.next hb9).cell 1 _ rfl
            have pl := (HPW.out.next hb9).lt
            clear hb9
            go_wp2
            go_ret
            exact ⟨rfl, HB9.out⟩
        · skip
          go_wp2_with fail
          generalize hX : (103 :: 97 :: 112 :: 32 :: 49 :: 10 :: 115 :: 101 :: 97 :: 116 :: 32 :: 48 :: 32 :: 48 :: 32 :: 48 :: 10 :: 115 :: 101 :: 97 :: 116 :: 32 :: 48 :: 32 :: 49 :: 48 :: 32 :: 48 :: 10 :: 115 :: 101 :: 97 :: 116 :: 32 :: 48 :: 32 :: 50 :: 48 :: 32 :: 48 :: 10 :: T) = S
          have hS : S = killsT true ds := by rw [← hX, HD.out.1]; rfl
          have HHS := hidK hS
          clear hX hS
          have hck0 := check_any S wr (HL.out.next HS.out.past).rng (HL.out.next HS.out.past).et
          by_cases hb0 : bd = 0
          · have HR : Hid (readL S = .ok ⟨three, 1, 0, ds.map (fun k : Nat => (k : Int)), []⟩) := by rw [HHS.out]; exact kills_yes true ds hd6 (by rw [← HD.out.2.2.1]; exact hb0)
            rw [HR.out] at hck0
            have hck : Calls Tryz.prog 10 #[.string ⟨S.toArray⟩] wr fun e w' => e = .returned (.tuple #[.int .i64 0, .agg #[.int .i64 0, .int .i64 0]]) ∧ Below wr.heap.size wr w' := hck0
            clear hck0
            subst hb0
            refine hck.mono ?_
            rintro e w1 ⟨rfl, hb1⟩
            have HS1 : Hid (KSt w w1 ds) := HS.out.next hb1
            clear hck hb1 HS
            go_wp2_with fail
            have HB2 := hidK (below_alloc w1 (.cells #[.int .i64 0, .int .i64 0] 27))
            have HP2 := hidK (Box.fresh w1 27 #[.int .i64 0, .int .i64 0])
            generalize w1.alloc (.cells #[.int .i64 0, .int .i64 0] 27) = w2 at HB2 HP2 ⊢
            generalize hq0 : w1.heap.size = q0 at HP2 ⊢
            have HS2 : Hid (KSt w w2 ds) := HS1.out.next HB2.out
            clear hq0 HB2 HS1
            have hven := ven_yes S ds HR.out w2 (HL.out.next HS2.out.past)
            refine hven.mono ?_
            clear hven
            rintro e w3 ⟨⟨sa, sc, ka, kc, pa, pn, pc, rfl, hK⟩, hb3⟩
            have HS3 : Hid (KSt w w3 ds) := HS2.out.next hb3
            have HP3 := hidK (HP2.out.next hb3)
            clear hb3 HS2 HP2 HR
            go_wp2_with fail
            have HBW := hidK (below_alloc w3 (.cells #[.slice sa 3 sc, .int .i64 1, .int .i64 0, .slice ka (inL ds 3).length kc, .slice pa pn pc] 33))
            have HVW := hidK (Box.fresh w3 33 #[.slice sa 3 sc, .int .i64 1, .int .i64 0, .slice ka (inL ds 3).length kc, .slice pa pn pc])
            generalize w3.alloc (.cells #[.slice sa 3 sc, .int .i64 1, .int .i64 0, .slice ka (inL ds 3).length kc, .slice pa pn pc] 33) = W at HBW HVW ⊢
            generalize hq1 : w3.heap.size = q1 at HVW ⊢
            have HSW : Hid (KSt w W ds) := HS3.out.next HBW.out
            have HPW := hidK (HP3.out.next HBW.out)
            have HKW : Hid (∀ n (hn : n < (inL ds 3).length), ∃ kb ko, ka = some ⟨kb, ko, none⟩ ∧ kb < W.heap.size ∧ W.cell? ⟨kb, ko + n, none⟩ = some (.int .i64 (inL ds 3)[n])) := hK W HBW.out
            clear hq1 HBW HS3 HP3 hK
            have HK3 : Hid ((inL ds 3).length ≤ 3) := inL_len ds 3
            go_loopw [18, 19] (fun s i wy => ∃ k : Nat, W = wy ∧ k ≤ 3 ∧ i = .int .i64 k ∧ s = .int .i64 (inL ds k).length) (fun _ i _ => 3 - (intOf i).toNat)
            case atStart => exact ⟨0, rfl, by omega, rfl, rfl⟩
            case round =>
              obtain ⟨k, rfl, hk, rfl, rfl⟩ := hrel
              have i0 := HVW.out.five
              obtain ⟨i0, i1, i2, i3, i4⟩ := i0
              have il := HVW.out.lt
              by_cases hk3 : k < 3
              · have hk3z : (k : Int) < 3 := by omega
                have cin := HSW.out.box.cell k _ (inBox_at ds k (by omega))
                have clt := HSW.out.box.lt
                have hnk := inL_len ds k
                by_cases hin : k ∈ ds
                · obtain ⟨hn, hval, hnext⟩ := inL_hit ds k hk3 hin
                  obtain ⟨kb, ko, rfl, hkb, hcell⟩ := HKW.out (inL ds k).length hn
                  rw [decide_eq_true hin] at cin
                  rw [hval] at hcell
                  have HNX := hidK hnext
                  clear hnext hval hin
                  generalize (inL ds k).length = n at hn hcell HNX hnk ⊢
                  generalize (inL ds 3).length = m at hn i3 ⊢
                  have hnz : ¬ ((n : Int) ≥ (m : Int)) := by omega
                  have hnz2 : (n : Int) < (m : Int) := by omega
                  go_wp2
                  refine ⟨⟨k + 1, trivial, by omega, by go_num, ?_⟩, by simp [intOf]; omega⟩
                  rw [HNX.out]; go_num
                · have hnext := inL_miss ds k hin
                  rw [decide_eq_false hin] at cin
                  have HNX := hidK hnext
                  clear hnext hin
                  go_wp2
                  refine ⟨⟨k + 1, trivial, by omega, by go_num, ?_⟩, by simp [intOf]; omega⟩
                  rw [HNX.out]
              · have hk3z : ¬ (k : Int) < 3 := by omega
                have hk3e : k = 3 := by omega
                subst hk3e
                have hk3 := HK3.out
                generalize (inL ds 3).length = m at i3 HVW hk3 ⊢
                go_wp2_with fail
                refine (told_any _ (HL.out.next HSW.out.past)).mono ?_
                rintro e w9 ⟨rfl, hb9⟩
                have HB9 : Hid (Below w.heap.size w w9) := HSW.out.past.trans (hb9.mono HSW.out.past.size)
                have j0 := (HVW.out.next hb9).five
                obtain ⟨j0, j1, j2, j3, j4⟩ := j0
                have jl := (HVW.out.next hb9).lt
                clear hb9 i0 i1 i2 i3 i4 il
                go_wp2
                go_ret
                exact ⟨rfl, HB9.out⟩
          · have HR : Hid (readL S = .error (2, (bd : Int) + 4, (cd : Int))) := by
              have := kills_no true ds hd6 (by rw [← HD.out.2.2.1]; omega)
              rw [HHS.out, this, HD.out.2.2.1, HD.out.2.2.2]; rfl
            rw [HR.out] at hck0
            have hck : Calls Tryz.prog 10 #[.string ⟨S.toArray⟩] wr fun e w' => e = .returned (.tuple #[.int .i64 2, .agg #[.int .i64 ((bd : Int) + 4), .int .i64 (cd : Int)]]) ∧ Below wr.heap.size wr w' := hck0
            clear hck0
            have hbz : (0 : Int) < (bd : Int) := by omega
            refine hck.mono ?_
            rintro e w1 ⟨rfl, hb1⟩
            have HS1 : Hid (KSt w w1 ds) := HS.out.next hb1
            clear hck hb1 HS
            go_wp2_with fail
            have HB2 := hidK (below_alloc w1 (.cells #[.int .i64 ((bd : Int) + 4), .int .i64 (cd : Int)] 27))
            have HP2 := hidK (Box.fresh w1 27 #[.int .i64 ((bd : Int) + 4), .int .i64 (cd : Int)])
            generalize w1.alloc (.cells #[.int .i64 ((bd : Int) + 4), .int .i64 (cd : Int)] 27) = w2 at HB2 HP2 ⊢
            generalize hq0 : w1.heap.size = q0 at HP2 ⊢
            have HS2 : Hid (KSt w w2 ds) := HS1.out.next HB2.out
            clear hq0 HB2 HS1
            have hven := ven_no S (2, (bd : Int) + 4, (cd : Int)) (by show (0 : Int) < 2; omega) HR.out w2 (HL.out.next HS2.out.past)
            refine hven.mono ?_
            clear hven
            rintro e w3 ⟨⟨q, rfl⟩, hb3⟩
            have HS3 : Hid (KSt w w3 ds) := HS2.out.next hb3
            have HP3 := hidK (HP2.out.next hb3)
            clear hb3 HS2 HP2 HR
            go_wp2_with fail
            have HBW := hidK (below_alloc w3 (.cells #[.slice none 0 0, .int .i64 0, .int .i64 0, .slice none 0 0, .slice none 0 0] 33))
            have HVW := hidK (Box.fresh w3 33 #[.slice none 0 0, .int .i64 0, .int .i64 0, .slice none 0 0, .slice none 0 0])
            generalize w3.alloc (.cells #[.slice none 0 0, .int .i64 0, .int .i64 0, .slice none 0 0, .slice none 0 0] 33) = W at HBW HVW ⊢
            generalize hq1 : w3.heap.size = q1 at HVW ⊢
            have HSW : Hid (KSt w W ds) := HS3.out.next HBW.out
            have HPW := hidK (HP3.out.next HBW.out)
            clear hq1 HBW HS3 HP3
            go_wp2_with fail
            refine (told_any _ (HL.out.next HSW.out.past)).mono ?_
            rintro e w9 ⟨rfl, hb9⟩
            have HB9 : Hid (Below w.heap.size w w9) := HSW.out.past.trans (hb9.mono HSW.out.past.size)
            have j0 := (HVW.out.next hb9).five
            obtain ⟨j0, j1, j2, j3, j4⟩ := j0
            have jl := (HVW.out.next hb9).lt
            have p0 := (HPW.out.next hb9).cell 0 _ rfl
            have p1 := (HPW.out.next hb9).cell 1 _ rfl
            have pl := (HPW.out.next hb9).lt
            clear hb9
            go_wp2
            go_ret
            exact ⟨rfl, HB9.out⟩
end Go.Proofs.YtdffleaokccgmaaGreatDoor.Prn
