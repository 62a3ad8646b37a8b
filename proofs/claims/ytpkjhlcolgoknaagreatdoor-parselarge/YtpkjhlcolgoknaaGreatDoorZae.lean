/- (*hall).read, a line, by its contract; slices.Index, slices.Contains at ints, by contracts; (*hall).kill by its contract. -/
import Derived.Test.YtpkjhlcolgoknaaGreatDoorZad
import Derived.Test.YtpkjhlcolgoknaaGreatDoorZac
namespace Go.Proofs.YtpkjhlcolgoknaaGreatDoor.Par
set_option linter.unusedVariables false
set_option maxRecDepth 100000
open Go.RowKit Go.Shelf Go.Maps
open Go.Proofs.YtpkjhlcolgoknaaGreatDoor.Ven (Box row_next)
open Go.Proofs.YtpkjhlcolgoknaaGreatDoor.Prs (atI wordK kindL letsK)

theorem row_new {w : World} {base : Nat} {e : TypeId} {size : Nat} {v : Value} {n : Nat} {xs : List Value} (h : w.ownsRow base e size v n xs) : some w.heap.size ≠ v.ownBlock := by
  intro hc
  rcases h.2 with ⟨hv, _⟩ | ⟨g', cap, cur, hv, _, hb, _⟩
  · subst hv; cases hc
  · subst hv
    simp [Value.ownBlock] at hc
    have := (Array.getElem?_eq_some_iff.1 hb).1
    omega
theorem form_len : ∀ (n : Nat) (rest : List T) (e : Int × Int), formL n rest e = none → rest.length = n
  | 0, [], _, _ => rfl
  | 0, _ :: _, _, h => by cases h
  | _ + 1, [], _, h => by cases h
  | n + 1, t :: r, e, h => by
    unfold formL at h
    split at h
    · simp [form_len n r e h]
    · cases h
theorem tell_none {tk tn tl tc : Int} {tt : List UInt8} {rest : List T} {e : Int × Int} (h : tellL (tk, tn, tl, tc, tt) rest e = none) : ∃ k, 1 ≤ k ∧ k ≤ 7 ∧ tt = wordK k ∧ kindL tt = k ∧ rest.length = numK k ∧ rangeL k 0 rest = none := by
  unfold tellL at h
  simp only [] at h
  by_cases hk : kindL tt = 0
  · rw [if_pos hk] at h; cases h
  · rw [if_neg hk] at h
    cases hf : formL (numK (kindL tt)) rest e with
    | some p => rw [hf] at h; cases h
    | none =>
      rw [hf] at h
      rcases Prs.kindL_cases tt with ⟨k, h1, h2, h3, h4⟩ | ⟨h0, _⟩
      · exact ⟨k, h1, h2, h3, h4, by rw [← h4]; exact form_len _ _ _ hf, by rw [← h4]; exact h⟩
      · exact absurd h0 hk
variable {w : World} {base hb : Nat} {az : Option Addr} {cs : Nat} {ak : Option Addr} {ck : Nat} {ap : Option Addr} {cp mb : Nat} {af : Option Addr} {cf : Nat} {s : St} {K : List Int} {fs : List Fact}
/-- What reading a line leaves. -/
def ReadTo (w : World) (base hb mb : Nat) (K : List Int) (o : Except (Int × Int) St) (e : Ending) (w' : World) : Prop :=
  (match o with
  | .ok s' => e = .returned .nilIface ∧ ∃ az cs ak ck ap cp af cf fs, Hall w' base hb az cs ak ck ap cp mb af cf s' K fs
  | .error p => e = .returned (wrongV 2 p.1 p.2)) ∧ OwnH base w w'
theorem ReadTo.bad {o : Except (Int × Int) St} {p : Int × Int} {w' : World} (ho : o = .error p) (h : OwnH base w w') : ReadTo w base hb mb K o (.returned (wrongV 2 p.1 p.2)) w' := by subst ho; exact ⟨rfl, h⟩
theorem ReadTo.ok {o : Except (Int × Int) St} {s' : St} {w' : World} (ho : o = .ok s') (hx : ∃ az cs ak ck ap cp af cf fs, Hall w' base hb az cs ak ck ap cp mb af cf s' K fs) (h : OwnH base w w') : ReadTo w base hb mb K o (.returned .nilIface) w' := by subst ho; exact ⟨⟨rfl, hx⟩, h⟩
theorem lineL_bad {t : T} {rest : List T} {e p : Int × Int} {s : St} (h : tellL t rest e = some p) : lineL (t :: rest) e s = .error p := by unfold lineL; simp only [h]
theorem lineL_add {t : T} {rest : List T} {e : Int × Int} {s s' : St} (h : tellL t rest e = none) (ha : addL (kindL t.2.2.2.2) t rest s = some s') : lineL (t :: rest) e s = .ok s' := by unfold lineL; simp only [h, ha]
theorem lineL_no {t : T} {rest : List T} {e : Int × Int} {s : St} (h : tellL t rest e = none) (ha : addL (kindL t.2.2.2.2) t rest s = none) : lineL (t :: rest) e s = .error (spotT t) := by unfold lineL; simp only [h, ha]
set_option maxHeartbeats 2000000 in
theorem readLine_nil (h : Hall w base hb az cs ak ck ap cp mb af cf s K fs) (va : Option Addr) (vc : Nat) (li co : Int) :
    Calls Tryz.prog 47 #[.pointer (some ⟨hb, 0, none⟩), lineV (.slice va 0 vc) li co] w fun e w' => ReadTo w base hb mb K (lineL [] (li, co) s) e w' := by
  have HH : Hid (Hall w base hb az cs ak ck ap cp mb af cf s K fs) := h
  clear h
  go_enter Tryz.func47, Tryz.ntmps47
  go_wp2
  go_ret
  have hB : Below w.heap.size w (w.alloc (.cells #[.slice va 0 vc, .int .i64 li, .int .i64 co] 104)) := (Below.refl _ w).alloc (Nat.le_refl _) _
  exact ReadTo.ok rfl ⟨_, _, _, _, _, _, _, _, _, HH.out.next hB⟩ (OwnH.of_below hB)
set_option maxHeartbeats 4000000 in
theorem readLine_cons (h : Hall w base hb az cs ak ck ap cp mb af cf s K fs) (tk tn tl tc : Int) (tt : List UInt8) (rest : List T) (g cap : Nat) (hL : LineRow w ⟨(tk, tn, tl, tc, tt), rest, g, cap⟩) (li co : Int) :
    Calls Tryz.prog 47 #[.pointer (some ⟨hb, 0, none⟩), lineV (.slice (some ⟨g, 0, none⟩) (rest.length + 1) cap) li co] w fun e w' => ReadTo w base hb mb K (lineL ((tk, tn, tl, tc, tt) :: rest) (li, co) s) e w' := by
  obtain ⟨hT, hc1, hc2⟩ := hL.toks
  have hc1' : rest.length + 1 ≤ cap := hc1
  have hB : Below w.heap.size w (w.alloc (.cells #[.slice (some ⟨g, 0, none⟩) (rest.length + 1) cap, .int .i64 li, .int .i64 co] 104)) := (Below.refl _ w).alloc (Nat.le_refl _) _
  have htell := tell_any tk tn tl tc tt rest g cap li co hc1 hc2 _ (hT.next hB)
  have hLB : LineRow (w.alloc (.cells #[.slice (some ⟨g, 0, none⟩) (rest.length + 1) cap, .int .i64 li, .int .i64 co] 104)) ⟨(tk, tn, tl, tc, tt), rest, g, cap⟩ := row_next hL hB
  have HH : Hid (Hall w base hb az cs ak ck ap cp mb af cf s K fs) := h
  have HL : Hid (LineRow w ⟨(tk, tn, tl, tc, tt), rest, g, cap⟩) := hL
  have HB : Hid (Below w.heap.size w (w.alloc (.cells #[.slice (some ⟨g, 0, none⟩) (rest.length + 1) cap, .int .i64 li, .int .i64 co] 104))) := hB
  have hrz : (((rest.length + 1 : Nat) : Int) == 0) = false := by simp; omega
  generalize hto : tellL (tk, tn, tl, tc, tt) rest (li, co) = to at htell
  have HTO : Hid (tellL (tk, tn, tl, tc, tt) rest (li, co) = to) := hto
  clear hT hc1 hc2 hc1' hB hLB h hL hto
  generalize hrl : rest.length + 1 = rl at htell hrz HB ⊢
  clear hrl
  go_enter Tryz.func47, Tryz.ntmps47
  go_wp2_with fail
  refine htell.mono ?_
  rintro e w1 ⟨hres, hb1⟩
  clear htell
  have HB1 : Hid (Below w.heap.size w w1) := HB.out.trans (hb1.mono HB.out.size)
  clear hb1 hrz
  cases to with
  | some p =>
    have hres' : e = .returned (.tuple #[factZ, wrongV 2 p.1 p.2]) := hres
    subst hres'
    go_wp2
    go_ret
    exact ReadTo.bad (lineL_bad HTO.out) (OwnH.of_below (HB1.out.alloc HB1.out.size _))
  | none =>
    have hres' : e = .returned (.tuple #[factV tk tn tl tc tt (.slice (restA g cap) rest.length (cap - 1)), .nilIface]) := hres
    subst hres'
    obtain ⟨k, k1, k7, rfl, hkk, hkn, hkr⟩ := tell_none HTO.out
    have hB2 : Below w1.heap.size w1 (w1.alloc (.cells #[.int .i64 tk, .int .i64 tn, .int .i64 tl, .int .i64 tc, .string ⟨(wordK k).toArray⟩, .slice (restA g cap) rest.length (cap - 1)] 133)) := (Below.refl _ w1).alloc (Nat.le_refl _) _
    have hB02 := HB1.out.trans (hB2.mono HB1.out.size)
    have hadd := add_any (HH.out.next hB02) k k1 k7 tk tn tl tc rest g cap (row_next HL.out hB02) hkn hkr
    have HB02 : Hid (Below w.heap.size w (w1.alloc (.cells #[.int .i64 tk, .int .i64 tn, .int .i64 tl, .int .i64 tc, .string ⟨(wordK k).toArray⟩, .slice (restA g cap) rest.length (cap - 1)] 133))) := hB02
    have HFB : Hid (Box (w1.alloc (.cells #[.int .i64 tk, .int .i64 tn, .int .i64 tl, .int .i64 tc, .string ⟨(wordK k).toArray⟩, .slice (restA g cap) rest.length (cap - 1)] 133)) w1.heap.size 133 #[.int .i64 tk, .int .i64 tn, .int .i64 tl, .int .i64 tc, .string ⟨(wordK k).toArray⟩, .slice (restA g cap) rest.length (cap - 1)]) := Box.fresh w1 _ _
    have HKK : Hid (kindL (wordK k) = k) := hkk
    have HNE : Hid (some w1.heap.size ≠ (Value.slice af s.kills.length cf).ownBlock) := row_new (HH.out.next HB1.out).fo
    generalize hao : addL k (tk, tn, tl, tc, wordK k) rest s = ao at hadd
    have HAO : Hid (addL k (tk, tn, tl, tc, wordK k) rest s = ao) := hao
    clear hB2 hB02 hkn hkr hao hkk k1 k7 hres
    generalize rest.length = rl2 at hadd HB02 HFB ⊢
    go_wp2_with fail
    refine hadd.mono ?_
    intro e w2 hA
    clear hadd
    cases ao with
    | some s' =>
      obtain ⟨⟨rfl, hx⟩, ho, _⟩ := hA
      go_wp2
      go_ret
      exact ReadTo.ok (lineL_add HTO.out (by show addL (kindL (wordK k)) _ _ _ = _; rw [HKK.out]; exact HAO.out)) hx ((OwnH.of_below HB02.out).trans ho)
    | none =>
      obtain ⟨he, ho, hkp⟩ := hA
      have he' : e = .returned (.bool false) := he
      subst he'
      have hfx := hkp _ _ HFB.out (HNE.out)
      have g0 := hfx.cell 0 _ rfl
      have g1 := hfx.cell 1 _ rfl
      have g2 := hfx.cell 2 _ rfl
      have g3 := hfx.cell 3 _ rfl
      have g4 := hfx.cell 4 _ rfl
      have gl := hfx.lt
      have HOO : Hid (OwnH base w w2) := (OwnH.of_below HB02.out).trans ho
      clear hkp he ho hfx
      go_wp2_with fail
      refine (wrongToken_any tk tn tl tc (wordK k) _).mono ?_
      rintro e w3 ⟨rfl, hb3⟩
      go_wp2
      go_ret
      exact ReadTo.bad (lineL_no HTO.out (by show addL (kindL (wordK k)) _ _ _ = _; rw [HKK.out]; exact HAO.out)) (HOO.out.trans (OwnH.of_below hb3))
end Go.Proofs.YtpkjhlcolgoknaaGreatDoor.Par

namespace Go.Proofs.YtpkjhlcolgoknaaGreatDoor.Par
set_option linter.unusedVariables false
set_option maxRecDepth 100000
open Go.RowKit Go.Shelf
open Go.Proofs.YtpkjhlcolgoknaaGreatDoor.Ven (Sl Cells intC ret_bool ret_int)

/-- Where a number stands first; -1. -/
def idxI (l : List Int) (x : Int) : Int := match l.findIdx? (fun y => y == x) with | some i => i | none => -1
theorem idxI_hit (l : List Int) (x : Int) (k : Nat) (hk : k < l.length) (h : l[k] = x) (hb : ∀ j (hj : j < l.length), j < k → ¬ l[j] = x) : idxI l x = k := by
  have : l.findIdx? (fun y => y == x) = some k := by
    rw [List.findIdx?_eq_some_iff_getElem]
    exact ⟨hk, by simpa using h, fun j hj => by simpa using hb j (by omega) hj⟩
  unfold idxI; rw [this]
theorem idxI_none (l : List Int) (x : Int) (hb : ∀ j (hj : j < l.length), ¬ l[j] = x) : idxI l x = -1 := by
  have : l.findIdx? (fun y => y == x) = none := by
    rw [List.findIdx?_eq_none_iff]
    intro y hy
    obtain ⟨j, hj, rfl⟩ := List.getElem_of_mem hy
    simpa using hb j hj
  unfold idxI; rw [this]
theorem idxI_mem (l : List Int) (x : Int) : decide (0 ≤ idxI l x) = decide (x ∈ l) := by
  unfold idxI
  cases h : l.findIdx? (fun y => y == x) with
  | none =>
    rw [List.findIdx?_eq_none_iff] at h
    have : x ∉ l := fun hx => by have := h x hx; simp at this
    simp [this]
  | some i =>
    rw [List.findIdx?_eq_some_iff_getElem] at h
    obtain ⟨hi, h2, _⟩ := h
    have : x ∈ l := by
      have e : l[i] = x := by simpa using h2
      rw [← e]; exact List.getElem_mem hi
    simp [this]
set_option maxHeartbeats 1000000 in
theorem index_any (l : List Int) (x : Int) (a : Option Addr) (c : Nat) (w : World) (hS : Sl 1 intC w (.slice a l.length c) l) :
    Calls Tryz.prog 138 #[.slice a l.length c, .int .i64 x] w fun e w' => e = .returned (.int .i64 (idxI l x)) ∧ w' = w := by
  have hmx := hS.max
  have HS : Hid (Sl 1 intC w (.slice a l.length c) l) := hS
  clear hS
  go_enter Tryz.func138, Tryz.ntmps138
  go_wp2
  go_loopw [5, 8] (fun _ i wr => ∃ k : Nat, w = wr ∧ k ≤ l.length ∧ i = .int .i64 k ∧ Hid (∀ j (hj : j < l.length), j < k → ¬ l[j] = x)) (fun _ i _ => l.length - (intOf i).toNat)
  case atStart => exact ⟨0, rfl, Nat.zero_le _, rfl, by intro j hj h; omega⟩
  case round =>
    obtain ⟨k, rfl, hk, rfl, HA⟩ := hrel
    by_cases hlt : k < l.length
    · have hltz : (k : Int) < (l.length : Int) := by omega
      obtain ⟨b, off, rfl, hC⟩ := Ven.cells_of_pos HS.out hlt
      have c0 := hC.2 k hlt 0 _ rfl
      have hb := hC.1
      generalize hy : l[k] = y at c0
      have HY : Hid (l[k] = y) := hy
      simp only [Nat.mul_one, Nat.add_zero] at c0
      clear hy hC
      by_cases h1 : x = y
      · have h1' : (x == y) = true := by simpa using h1
        have HK : Hid (idxI l x = k) := idxI_hit l x k hlt (by rw [HY.out]; exact h1.symm) HA.out
        clear h1
        go_wp2
        go_ret
        exact ⟨ret_int HK.out.symm, rfl⟩
      · have h1' : (x == y) = false := by simpa using h1
        have HN : Hid (¬ l[k] = x) := by
          show ¬ l[k] = x
          rw [HY.out]; exact fun h => h1 h.symm
        clear h1
        go_wp2
        go_roundw
        case rel =>
          refine ⟨k + 1, by simp, by omega, by go_num, ?_⟩
          show ∀ j (hj : j < l.length), j < k + 1 → ¬ l[j] = x
          intro j hj h
          rcases Nat.lt_or_ge j k with h' | h'
          · exact HA.out j hj h'
          · have e : j = k := by omega
            subst e; exact HN.out
        case measure => simp [intOf]; omega
    · have hltz : ¬ (k : Int) < (l.length : Int) := by omega
      have HK : Hid (idxI l x = -1) := idxI_none l x (fun j hj => HA.out j hj (by omega))
      go_wp2
      go_ret
      exact ⟨ret_int HK.out.symm, rfl⟩
theorem contains_any (l : List Int) (x : Int) (a : Option Addr) (c : Nat) (w : World) (hS : Sl 1 intC w (.slice a l.length c) l) :
    Calls Tryz.prog 114 #[.slice a l.length c, .int .i64 x] w fun e w' => e = .returned (.bool (decide (x ∈ l))) ∧ w' = w := by
  have hm := idxI_mem l x
  have hi := index_any l x a c w hS
  generalize idxI l x = n at hi hm
  generalize decide (x ∈ l) = bb at hm ⊢
  clear hS
  go_enter Tryz.func114, Tryz.ntmps114
  go_wp2_with fail
  refine hi.mono ?_
  rintro e w1 ⟨rfl, rfl⟩
  go_wp2
  go_ret
  exact ⟨rfl, rfl⟩
end Go.Proofs.YtpkjhlcolgoknaaGreatDoor.Par

namespace Go.Proofs.YtpkjhlcolgoknaaGreatDoor.Par
set_option linter.unusedVariables false
set_option maxRecDepth 100000
open Go.RowKit Go.Shelf Go.Maps
open Go.Proofs.YtpkjhlcolgoknaaGreatDoor.Ven (Seat Pole Ven seatC poleC intC Box row_next row_same row_grown row_setCell row_low rows_apart row_slice ret_bool info3 BelowOf wp_region_quiet_below mixed row_sl Sl)
open Go.Proofs.YtpkjhlcolgoknaaGreatDoor.Prs (atI wordK kindL letsK)

variable {w : World} {base hb : Nat} {az : Option Addr} {cs : Nat} {ak : Option Addr} {ck : Nat} {ap : Option Addr} {cp mb : Nat} {af : Option Addr} {cf : Nat} {s : St} {K : List Int} {fs : List Fact}
/-- What kill leaves. -/
def KillTo (w : World) (base hb : Nat) (az : Option Addr) (cs : Nat) (ap : Option Addr) (cp mb : Nat) (af : Option Addr) (cf : Nat) (s : St) (K : List Int) (fs : List Fact) (kl : Kill) (e : Ending) (w' : World) : Prop :=
  (if atI s.seats kl.row kl.x < 0 then e = .returned (wrongV 2 kl.first.1 kl.first.2) else if atI s.seats kl.row kl.x ∈ K then e = .returned (wrongV 2 kl.word.1 kl.word.2)
    else e = .returned .nilIface ∧ ∃ ak ck, Hall w' base hb az cs ak ck ap cp mb af cf s (K ++ [atI s.seats kl.row kl.x]) fs) ∧ OwnH base w w'
theorem intC_len : ∀ x : Int, (intC x).length = 1 := fun _ => rfl
set_option maxHeartbeats 4000000 in
theorem kill_any (h : Hall w base hb az cs ak ck ap cp mb af cf s K fs) (tk tn tl tc : Int) (tt : List UInt8) (rest : List T) (g cap : Nat) (r x : Int) (fl fc : Int) (hf : FactIs w ⟨(tk, tn, tl, tc, tt), rest, g, cap⟩ ⟨r, x, (tl, tc), (fl, fc)⟩) (hK : K.length < 200) :
    Calls Tryz.prog 81 #[.pointer (some ⟨hb, 0, none⟩), factV tk tn tl tc tt (.slice (restA g cap) rest.length (cap - 1))] w fun e w' => KillTo w base hb az cs ap cp mb af cf s K fs ⟨r, x, (tl, tc), (fl, fc)⟩ e w' := by
  obtain ⟨hrow, h2, hkill, hwr, hwx⟩ := hf
  obtain ⟨hT, hc1, hc2⟩ := hrow.toks
  have hT1 : Tok.Toks w g 5 rest := hT.drop 1
  have h2' : rest.length = 2 := h2
  have hra : restA g cap = some ⟨g, 5, none⟩ := by unfold restA; rw [if_neg (show ¬ cap = 1 by have : rest.length + 1 ≤ cap := hc1; omega)]
  rw [hra]
  injection hkill with k1 k2 k3 k4
  have hn0 : nOf rest 0 = r := k1.symm
  have hn1 : nOf rest 1 = x := k2.symm
  have hs0 : spotT (rest[0]!) = (fl, fc) := k4.symm
  obtain ⟨i0, hi, hz0, hz1, hz2⟩ := info3
  have hB : Below w.heap.size w (w.alloc (.cells #[.int .i64 tk, .int .i64 tn, .int .i64 tl, .int .i64 tc, .string ⟨tt.toArray⟩, .slice (some ⟨g, 5, none⟩) rest.length (cap - 1)] 133)) := (Below.refl _ w).alloc (Nat.le_refl _) _
  have hfb := Box.fresh w 133 #[.int .i64 tk, .int .i64 tn, .int .i64 tl, .int .i64 tc, .string ⟨tt.toArray⟩, .slice (some ⟨g, 5, none⟩) rest.length (cap - 1)]
  have hHW := h.next hB
  have hTW := hT1.next hB
  obtain ⟨c, hc, hlook⟩ := hHW.look hwr hwx
  have hg := atI_ge s.seats r x
  generalize hat : atI s.seats r x = at_ at hc hlook hg
  have HAT : Hid (atI s.seats r x = at_) := hat
  have HH : Hid (Hall w base hb az cs ak ck ap cp mb af cf s K fs) := h
  have HKL : Hid (K.length < 200) := hK
  have HHB : Hid (Below w.heap.size w (w.alloc (.cells #[.int .i64 tk, .int .i64 tn, .int .i64 tl, .int .i64 tc, .string ⟨tt.toArray⟩, .slice (some ⟨g, 5, none⟩) rest.length (cap - 1)] 133))) := hB
  have H2 : Hid (rest.length = 2) := h2'
  have HR2 : Hid (0 < rest.length) := (by omega : 0 < rest.length)
  clear hrow hT hT1 k1 k2 k3 k4 hat h hK hc1 hc2 hwr hwx h2 h2' hB hra
  go_enter Tryz.func81, Tryz.ntmps81
  go_wp2_with fail
  have HBW : Hid (Below w.heap.size w (w.alloc (.cells #[.int .i64 tk, .int .i64 tn, .int .i64 tl, .int .i64 tc, .string ⟨tt.toArray⟩, .slice (some ⟨g, 5, none⟩) rest.length (cap - 1)] 133))) := HHB.out
  generalize w.alloc (.cells #[.int .i64 tk, .int .i64 tn, .int .i64 tl, .int .i64 tc, .string ⟨tt.toArray⟩, .slice (some ⟨g, 5, none⟩) rest.length (cap - 1)] 133) = W at hfb hHW hTW hlook HBW ⊢
  generalize w.heap.size = fb at hfb ⊢
  have HN : Hid (∀ p : BelowOf W, ∀ i : Nat, i < 2 → ∀ n, nOf rest i = n → Calls Tryz.prog 113 #[factV tk tn tl tc tt (.slice (some ⟨g, 5, none⟩) rest.length (cap - 1)), .int .i64 i] p.w fun e w' => e = .returned (.int .i64 n) ∧ Below p.w.heap.size p.w w') := fun p i hi n hn => by
    have h2 := H2.out
    exact number_any tk tn tl tc tt g 5 (cap - 1) rest i (by omega) n (by subst hn; unfold nOf; rw [getElem!_pos rest i (by omega)]) p.w (hTW.next p.h) (by unfold maxLen; omega)
  have HHW : Hid (Hall W base hb az cs ak ck ap cp mb af cf s K fs) := hHW
  have HTW : Hid (Tok.Toks W g 5 rest) := hTW
  have HFB : Hid (Box W fb 133 #[.int .i64 tk, .int .i64 tn, .int .i64 tl, .int .i64 tc, .string ⟨tt.toArray⟩, .slice (some ⟨g, 5, none⟩) rest.length (cap - 1)]) := hfb
  have hne : Nonempty (BelowOf W) := ⟨⟨W, Below.refl _ W⟩⟩
  have d5 := fun p : BelowOf W => (HHW.out.next p.h).box.cell 5 _ rfl
  have e0 := fun p : BelowOf W => (HFB.out.next p.h).cell 0 _ rfl
  have e1 := fun p : BelowOf W => (HFB.out.next p.h).cell 1 _ rfl
  have e2 := fun p : BelowOf W => (HFB.out.next p.h).cell 2 _ rfl
  have e3 := fun p : BelowOf W => (HFB.out.next p.h).cell 3 _ rfl
  have e4 := fun p : BelowOf W => (HFB.out.next p.h).cell 4 _ rfl
  have e5 := fun p : BelowOf W => (HFB.out.next p.h).cell 5 _ rfl
  generalize hbb : decide (0 ≤ at_) = bb at hlook
  have HBBB : Hid (decide (0 ≤ at_) = bb) := hbb
  have HC : Hid (0 ≤ at_ → c = at_) := hc
  have HL : Hid (∀ w', (∃ p : BelowOf W, w' = p.w) → (Instr.lookup 99 (.map (some mb)) (placeV r x) true).run Tryz.prog w' = .ok (.tuple #[.int .i64 c, .bool bb]) w') := fun w' ⟨p, hp⟩ => by subst hp; exact hlook p.w p.h
  have HNR : Hid (nOf rest 0 = r) := hn0
  have HNX : Hid (nOf rest 1 = x) := hn1
  clear hlook hbb hc hHW hTW hfb hn0 hn1
  generalize rest.length = rl at HN e5 HFB H2 HHB ⊢
  refine wp_region_quiet_below mixed (by kernel_rfl) ?_
  repeat (first | (refine wpQuiet_look rfl (.tmp 11) (.tmp 16) 99 rfl mb (placeV r x) _ rfl rfl HL.out ?_; simp only [Act.put, List.setIfInBounds_toArray, List.set_cons_succ, List.set_cons_zero]) | (go_big_quiet_step ((first | (go_at_call_of 113 (Value.int IntKind.i64 0); exact Ven.Calls.below_of (HN.out _ 0 (by omega) r HNR.out)) | (go_at_call_of 113 (Value.int IntKind.i64 1); exact Ven.Calls.below_of (HN.out _ 1 (by omega) x HNX.out))))))
  refine wpQuiet_nil ?_
  rintro _ ⟨p, rfl⟩
  have HB4 : Hid (Below w.heap.size w p.w) := HBW.out.trans (p.h.mono HBW.out.size)
  have HH4 : Hid (Hall p.w base hb az cs ak ck ap cp mb af cf s K fs) := HHW.out.next p.h
  have HT4 : Hid (Tok.Toks p.w g 5 rest) := HTW.out.next p.h
  have HF4 : Hid (Box p.w fb 133 #[.int .i64 tk, .int .i64 tn, .int .i64 tl, .int .i64 tc, .string ⟨tt.toArray⟩, .slice (some ⟨g, 5, none⟩) rl (cap - 1)]) := HFB.out.next p.h
  clear d5 e0 e1 e2 e3 e4 e5 HL HHW HBW HTW HFB hne HN HNR HNX HHB
  generalize p.w = W4 at HB4 HH4 HT4 HF4 ⊢
  clear p
  cases bb
  · have h0 := of_decide_eq_false HBBB.out
    have HN0 : Hid (at_ < 0) := (by omega : at_ < 0)
    have ta := HT4.out.at 0 HR2.out
    rw [getElem!_pos rest 0 HR2.out] at hs0
    generalize rest[0]'HR2.out = t0 at hs0 ta
    obtain ⟨fk, fn, fl', fc', ft⟩ := t0
    obtain ⟨rfl, rfl⟩ : fl' = fl ∧ fc' = fc := by
      simp only [spotT, Prod.mk.injEq] at hs0; exact hs0
    obtain ⟨c0, c1, c2, c3, c4⟩ := ta
    simp only [Nat.zero_mul, Nat.add_zero, Nat.reduceAdd] at c0 c1 c2 c3 c4
    have g5 := HF4.out.cell 5 _ rfl
    have gl := HF4.out.lt
    have tl4 := HT4.out.1
    have hrl : (0 : Int) < (rl : Int) := by have := H2.out; omega
    have h2z : rl = 2 := H2.out
    clear hs0 h0 HBBB HC hg
    go_wp2_with fail
    refine (wrongToken_any fk fn fl' fc' ft _).mono ?_
    rintro e w5 ⟨rfl, hb5⟩
    go_wp2
    go_ret
    unfold KillTo
    rw [HAT.out, if_pos HN0.out]
    exact ⟨rfl, OwnH.of_below (HB4.out.trans (hb5.mono HB4.out.size))⟩
  · have h0 := of_decide_eq_true HBBB.out
    have hca := HC.out h0
    subst hca
    have HN0 : Hid (0 ≤ c) := h0
    have b4 := HH4.out.box
    have q3 := b4.cell 3 _ rfl
    have ql := b4.lt
    have hcon := contains_any K c ak ck W4 (row_sl intC_len HH4.out.ko)
    generalize hcd : decide (c ∈ K) = b2 at hcon
    have HCD : Hid (decide (c ∈ K) = b2) := hcd
    clear h0 HBBB HC hg b4 hcd
    go_wp2_with fail
    refine hcon.mono ?_
    rintro e w5 ⟨rfl, rfl⟩
    clear hcon
    cases b2
    · have hnot := of_decide_eq_false HCD.out
      have HNOT : Hid (¬ c ∈ K) := hnot
      clear hnot HCD
      have hlK := HKL.out
      have HX : Hid (Hall (w5.alloc (.cells #[.int .i64 c] 3)) base hb az cs ak ck ap cp mb af cf s K fs) := HH4.out.next ((Below.refl _ w5).alloc (Nat.le_refl _) _)
      go_wp2_with (at_builtin; refine wpList_append_own _ rfl _ _ 22 rfl base 3 i0 (.int .i64 0) 1 8 Tryz.underlying22 hi hz0 hz1 hz2 rfl (by omega) _ _ _ rfl HX.out.ko ⟨w5.heap.size, 0, none⟩ 1 1 [.int .i64 c] rfl ?qc1 ?qc2 ?qc3 ?qc4 ?qc5 ?qc6 ?_)
      case qc1 => rfl
      case qc2 =>
        intro j u hj
        rw [Addr.add_lit, Nat.zero_add, World.cell?_alloc_at _ _ _ _ rfl]
        show [Value.int .i64 c].toArray[j]? = some u
        rw [List.getElem?_toArray]; exact hj
      case qc3 => intro u hu; simp at hu; subst hu; rfl
      case qc4 => unfold maxLen; omega
      case qc5 => omega
      case qc6 => exact HX.out.hbase
      intro v6 w6 hown6 hgr6 _
      obtain ⟨ak2, ck2, rfl⟩ := row_slice hown6
      have hu6 := HX.out.box.grown hgr6 (HX.out.box.not_row (by decide) HX.out.ko)
      have y3 := hu6.cell 3 _ rfl
      have yf := hu6.frozen 3
      have yl := hu6.lt
      have hd := HX.out.dead c hlK hown6 hgr6
      have HD : Hid (Hall (w6.setCell ⟨hb, 3, none⟩ (.slice ak2 (K.length + 1) ck2)) base hb az cs ak2 ck2 ap cp mb af cf s (K ++ [c]) fs ∧ OwnH base w (w6.setCell ⟨hb, 3, none⟩ (.slice ak2 (K.length + 1) ck2))) := ⟨hd.1, ((OwnH.of_below HB4.out).trans (OwnH.of_below ((Below.refl _ w5).alloc (Nat.le_refl _) _))).trans hd.2⟩
      clear hd hown6 hgr6 hu6 q3 ql
      go_wp2
      go_ret
      unfold KillTo
      rw [HAT.out, if_neg (Int.not_lt.2 HN0.out), if_neg HNOT.out]
      exact ⟨⟨rfl, ak2, ck2, HD.out.1⟩, HD.out.2⟩
    · have hin := of_decide_eq_true HCD.out
      have HIN : Hid (c ∈ K) := hin
      clear hin HCD
      have g0 := HF4.out.cell 0 _ rfl
      have g1 := HF4.out.cell 1 _ rfl
      have g2 := HF4.out.cell 2 _ rfl
      have g3 := HF4.out.cell 3 _ rfl
      have g4 := HF4.out.cell 4 _ rfl
      have gl := HF4.out.lt
      go_wp2_with fail
      refine (wrongToken_any tk tn tl tc tt _).mono ?_
      rintro e w7 ⟨rfl, hb5⟩
      go_wp2
      go_ret
      unfold KillTo
      rw [HAT.out, if_neg (Int.not_lt.2 HN0.out), if_pos HIN.out]
      exact ⟨rfl, OwnH.of_below (HB4.out.trans (hb5.mono HB4.out.size))⟩
end Go.Proofs.YtpkjhlcolgoknaaGreatDoor.Par
