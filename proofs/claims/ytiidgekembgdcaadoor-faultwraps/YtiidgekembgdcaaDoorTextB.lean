/- fault.Text by its contract, over chains of faults. -/
import Derived.Test.YtiidgekembgdcaaDoorTextR
namespace Go.Proofs.YtiidgekembgdcaaDoor
open Go.RowKit Go.Shelf

attribute [local go_sem] Oper.semAt_some

def dat {w : World} (p : List (FN w)) : List (Int × Int × Int) := p.map fun x => x.1.2

set_option maxRecDepth 100000 in
set_option maxHeartbeats 4000000 in
theorem Text_in (n : Nat) (hn : 3 ≤ n) (v : Value) (ks : List (Int × Int × Int)) (w : World) (hg : Et w) (hp : Pow w) (hc : Chain w v ks) (hks : ks.length ≤ 1000) :
    CallsIn Fence.wide n Tryd.prog 15 #[v] w fun e W' => e = .returned (.string ⟨(textOf ks).toArray⟩) ∧ Below w.heap.size w W' := by
  have h1 : 1 ≤ n := by omega
  have h2 : 1 ≤ n - 1 - 1 := by omega
  have hlt := hg.pos
  obtain ⟨xs, hL, hmap⟩ := hc
  have hxl : xs.length ≤ 1000 := by rw [← hmap] at hks; simpa using hks
  have HM : Hid (dat xs = ks) := hmap
  clear hmap hks
  have hvi := hL.iface
  refine callsIn_of_wp_marks Tryd.func15 rfl trivial ?_ rfl
  simp only [Tryd.ntmps15, List.size_toArray, List.length_cons, List.length_nil, Nat.reduceAdd, Nat.reduceSub, Array.replicate_succ, Array.replicate_zero, List.push_toArray, List.append_toArray, List.nil_append, List.cons_append]
  gi_wp2_with (refine ⟨trivial, ?_⟩; gi_at_call 17; refine (faults_in (n - 1) v hvi _).mono ?_; rintro e w' ⟨rfl, rfl⟩)
  have hbx : Lib.IsBuilderF 54 5 w.heap.size w.heap.size [] (w.alloc (.cells #[.pointer none, .slice none 0 0] 54)) :=
    .inl ⟨Nat.le_refl _, .slice none 0 0, World.alloc_heap_new w _, ⟨rfl, .inl ⟨rfl, rfl⟩⟩, by simp [Value.ownBlock]⟩
  have hb := cell_new (w.alloc (.cells #[.pointer none, .slice none 0 0] 54)) v 23
  rw [World.size_alloc] at hb
  have hB0 : Below w.heap.size w ((w.alloc (.cells #[.pointer none, .slice none 0 0] 54)).alloc (.cells #[v] 23)) := ((Below.refl _ w).alloc (Nat.le_refl _) _).alloc (by simp) _
  refine wpIn_rangeFunc_ownF rfl h1 (gf := 26) (lb := #[.pointer (some ⟨w.heap.size + 1, 0, none⟩)]) rfl trivial (enters_of Tryd.func26 (by kernel_rfl) rfl)
    (faults_stops (n - 1) w hg (w.heap.size + 1) _ xs _ (by simp) hB0 hb.1 hL) belowK_t (belowK_b (by simp; omega)) (Below.refl _ _) (fun _ => rfl)
    (fun (pre : List (FN w)) W => Lib.IsBuilderF 54 5 w.heap.size w.heap.size (Lib.byteCells (textOf (dat pre))) W ∧ Below w.heap.size w W)
    (fun _ _ _ => False)
    (OwnFrom.and (Own.from (I := fun (pre : List (FN w)) W => Lib.IsBuilderF 54 5 w.heap.size w.heap.size (Lib.byteCells (textOf (dat pre))) W) (fun s A B row hs hg hr => builder_kept hs hg hr) _) (ownFrom_below (Nat.le_refl _) (by simp; omega)))
    (fun _ _ _ _ _ hs _ _ => hs)
    ⟨builder_below hbx ((Below.refl _ _).alloc (Nat.le_refl _) _), hB0⟩
    (fun x => { tmps := #[v, undef, .string ⟨#[]⟩, .pointer (some ⟨w.heap.size, 0, none⟩), .pointer (some ⟨x.1.1, 0, none⟩), v, .func (.func 26) #[] #[.pointer (some ⟨w.heap.size + 1, 0, none⟩)], .pointer (some ⟨x.1.1, 0, none⟩), undef, undef, undef, undef, undef, undef, undef, undef, undef, undef, undef, undef, undef, undef, undef, undef, undef, undef, undef, undef, undef, undef, undef, undef, undef, undef, undef, undef], defers := [] }) ?assign ?body ?done ?stop
  case assign =>
    intro l x W K hK
    gi_wp2
    exact hK
  case body =>
    rintro l pre x W ⟨hbd, hB⟩ hpl
    have hbW : w.heap.size ≤ W.heap.size := hB.size
    have hxb : x.1.1 < w.heap.size := x.2.1
    have hmx : Tryd.prog.follows .mixedOrders = true := by kernel_rfl
    have hc0 : W.cell? ⟨x.1.1, 0, none⟩ = some (.int .i64 x.1.2.1) := (hB.cell (p := ⟨x.1.1, 0, none⟩) x.2.1).trans x.2.2.1
    have hc1 : W.cell? ⟨x.1.1, 1, none⟩ = some (.int .i64 x.1.2.2.1) := (hB.cell (p := ⟨x.1.1, 1, none⟩) x.2.1).trans x.2.2.2.1
    have hc2 : W.cell? ⟨x.1.1, 2, none⟩ = some (.int .i64 x.1.2.2.2) := (hB.cell (p := ⟨x.1.1, 2, none⟩) x.2.1).trans x.2.2.2.2.1
    obtain ⟨r0, r1, r2⟩ := x.2.2.2.2.2
    have hpow : Pow W := hp.below hB
    have hTl : (textOf (dat pre)).length ≤ 102000 := by
      have := textOf_len (dat pre) (by intro y hy; obtain ⟨z, _, rfl⟩ := List.mem_map.1 hy; exact z.2.2.2.2.2)
      have e : (dat pre).length = pre.length := by simp [dat]
      omega
    have hsn : Hid (textOf (dat (pre ++ [x])) = (if pre = [] then [] else textOf (dat pre) ++ [58, 32]) ++ oneText x.1.2) := by
      show textOf (dat (pre ++ [x])) = _
      have e : dat (pre ++ [x]) = dat pre ++ [x.1.2] := by simp [dat]
      rw [e]
      split
      · rename_i hpre; subst hpre; rfl
      · rename_i hpre; exact textOf_snoc _ _ (by simpa [dat] using hpre)
    by_cases hpe : pre = []
    · subst hpe
      have hsn1 : Hid (textOf (dat ([] ++ [x])) = [] ++ oneText x.1.2) := by
        have := hsn.out; rw [if_pos rfl] at this; exact this
      have hbd1 : Lib.IsBuilderF 54 5 w.heap.size w.heap.size (Lib.byteCells []) W := hbd
      have hTl1 : ([] : List UInt8).length ≤ 102002 := by simp
      clear hsn hbd hTl hL hb hB0 hbx hvi hlt
      gi_wp2_with (refine ⟨trivial, ?_⟩; gi_at_call 21; refine (CallsIn.inRound l (callsIn_wide.2 (Tryd.Builder_Len_f _ _ _ _ hbd1))).mono ?_; rintro e W1 ⟨rfl, rfl⟩)
      have hk1 : KeepsOthers W1 W1 := KeepsOthers.refl _
      have hkb1 : Below w.heap.size W1 W1 := Below.refl _ _
      have hbW1 := hbW
      generalize hT : ([] : List UInt8) = T1 at hbd1 hTl1 hsn1
      clear hT
      -- REST
      gi_wp2_with (refine ⟨trivial, ?_⟩; gi_at_call 23; refine (CallsIn.inRound l (callsIn_wide.2 (Error_b _ r0 _ hpow))).mono ?_; rintro e W2 ⟨rfl, hb2⟩)
      have hbd2 := builder_below hbd1 hb2
      have hcl := codeText_len _ r0
      have hwl2 : (Lib.byteCells T1).length + (⟨(codeText x.1.2.1).toArray⟩ : ByteArray).size ≤ 140737488355328 := by rw [Lib.byteCells_length]; show T1.length + (codeText x.1.2.1).toArray.size ≤ _; simp; omega
      have hbW2 : w.heap.size ≤ W2.heap.size := Nat.le_trans hbW1 hb2.size
      refine ⟨trivial, ?_⟩
      refine (CallsIn.inRound l (callsIn_wide.2 (WriteString_k _ _ _ _ _ hbd2 hwl2 hbW2))).mono ?_
      rintro e W3 ⟨rfl, hbd3', hkb3, hok3⟩
      have hk3 := hk1.trans ((keeps_of_below hb2).trans (keeps_of_others hbd2 hok3 hkb3))
      have hkb4 := hkb1.trans ((hb2.mono hbW1).trans hkb3)
      have hkb5 : Below w.heap.size W1 W3 := (hb2.mono hbW1).trans hkb3
      have hbd3 : Lib.IsBuilderF 54 5 w.heap.size w.heap.size (Lib.byteCells (T1 ++ codeText x.1.2.1)) W3 := by
        have h := hbd3'
        rw [strCells_mk, byteCells_append] at h
        exact .inr h
      replace hc1 := (hkb5.cell (p := ⟨x.1.1, 1, none⟩) hxb).trans hc1
      replace hc2 := (hkb5.cell (p := ⟨x.1.1, 2, none⟩) hxb).trans hc2
      have hpow3 := hp.below (hB.trans hkb4)
      have hbW3 : w.heap.size ≤ W3.heap.size := Nat.le_trans hbW2 hkb3.size
      clear hbd1 hbd2 hb2 hbd3' hwl2 hok3 hkb3 hkb5 hpow hc0 hk1 hkb1
      by_cases hpb : placedB x.1.2.2.1 x.1.2.2.2 = true
      · have hone : oneText x.1.2 = codeText x.1.2.1 ++ atText3 x.1.2.2.1 x.1.2.2.2 := if_pos hpb
        rw [hone] at hsn1
        clear hone
        gi_wp2_with (refine ⟨trivial, ?_⟩; gi_at_call 20; refine (CallsIn.inRound l (callsIn_wide.2 (placed_at _ _ _ _ hc1 hc2))).mono ?_; rintro e W4 ⟨rfl, rfl⟩)
        refine Code.wpIn_mono ?_ (region8_in l _ h2 _ _ _ _ _ r1 r2 _ (by simp; omega) W4 hc1 hc2 hpow3 hbd3 hbW3 hxb _ _ _ _ _ _ _ _ _ _ _ _ _ _ _ _ _ _ _ _ _ _ _ _ _ _ _ _ _ _ _ _ _ _)
        rintro e a' W7 ⟨rfl, hb7, hk7, hl7⟩
        refine ⟨hk3.trans hk7, hkb4.trans hl7, ?_, hB.trans (hkb4.trans hl7)⟩
        rw [hsn1.out, ← List.append_assoc]
        exact hb7
      · have hone : oneText x.1.2 = codeText x.1.2.1 := if_neg hpb
        have hpb' : placedB x.1.2.2.1 x.1.2.2.2 = false := by simpa using hpb
        rw [hone] at hsn1
        clear hone hpb
        gi_wp2_with (refine ⟨trivial, ?_⟩; gi_at_call 20; refine (CallsIn.inRound l (callsIn_wide.2 (placed_at _ _ _ _ hc1 hc2))).mono ?_; rintro e W4 ⟨rfl, rfl⟩)
        exact ⟨hk3, hkb4, by rw [hsn1.out]; exact hbd3, hB.trans hkb4⟩
    · have hT0 : 0 < (textOf (dat pre)).length := by
        rcases Nat.eq_zero_or_pos (textOf (dat pre)).length with h0 | h0
        · exact absurd ((textOf_nil _).1 (List.length_eq_zero_iff.1 h0)) (by simpa [dat] using hpe)
        · exact h0
      rw [if_neg hpe] at hsn
      generalize textOf (dat pre) = T at hbd hTl hT0 hsn
      have hTc := Lib.byteCells_length T
      have hwl : (Lib.byteCells T).length + (⟨#[58, 32]⟩ : ByteArray).size ≤ 140737488355328 := by rw [hTc]; show T.length + 2 ≤ _; omega
      clear hL hb hB0 hbx hvi hlt hpe
      gi_wp2_with (first
        | (refine ⟨trivial, ?_⟩; gi_at_call 21; refine (CallsIn.inRound l (callsIn_wide.2 (Tryd.Builder_Len_f _ _ _ _ hbd))).mono ?_; rintro e W0 ⟨rfl, rfl⟩))
      refine ⟨trivial, ?_⟩
      refine (CallsIn.inRound l (callsIn_wide.2 (WriteString_k _ _ _ _ _ hbd hwl hbW))).mono ?_
      rintro e W1 ⟨rfl, hbd1', hkb1, hok1⟩
      have hk1 := keeps_of_others hbd hok1 hkb1
      have hbd1 : Lib.IsBuilderF 54 5 w.heap.size w.heap.size (Lib.byteCells (T ++ [58, 32])) W1 := by
        have h := hbd1'
        rw [strCells_mk [58, 32], byteCells_append] at h
        exact .inr h
      have hTl1 : (T ++ [58, 32]).length ≤ 102002 := by simp; omega
      have hsn1 : Hid (textOf (dat (pre ++ [x])) = (T ++ [58, 32]) ++ oneText x.1.2) := hsn
      clear hbd1' hwl hTc hT0 hbd hsn hTl hok1
      generalize T ++ [58, 32] = T1 at hbd1 hTl1 hsn1
      have hbW1 : w.heap.size ≤ W1.heap.size := Nat.le_trans hbW hkb1.size
      replace hc0 := (hkb1.cell (p := ⟨x.1.1, 0, none⟩) hxb).trans hc0
      replace hc1 := (hkb1.cell (p := ⟨x.1.1, 1, none⟩) hxb).trans hc1
      replace hc2 := (hkb1.cell (p := ⟨x.1.1, 2, none⟩) hxb).trans hc2
      replace hpow := hp.below (hB.trans hkb1)
      -- REST
      gi_wp2_with (refine ⟨trivial, ?_⟩; gi_at_call 23; refine (CallsIn.inRound l (callsIn_wide.2 (Error_b _ r0 _ hpow))).mono ?_; rintro e W2 ⟨rfl, hb2⟩)
      have hbd2 := builder_below hbd1 hb2
      have hcl := codeText_len _ r0
      have hwl2 : (Lib.byteCells T1).length + (⟨(codeText x.1.2.1).toArray⟩ : ByteArray).size ≤ 140737488355328 := by rw [Lib.byteCells_length]; show T1.length + (codeText x.1.2.1).toArray.size ≤ _; simp; omega
      have hbW2 : w.heap.size ≤ W2.heap.size := Nat.le_trans hbW1 hb2.size
      refine ⟨trivial, ?_⟩
      refine (CallsIn.inRound l (callsIn_wide.2 (WriteString_k _ _ _ _ _ hbd2 hwl2 hbW2))).mono ?_
      rintro e W3 ⟨rfl, hbd3', hkb3, hok3⟩
      have hk3 := hk1.trans ((keeps_of_below hb2).trans (keeps_of_others hbd2 hok3 hkb3))
      have hkb4 := hkb1.trans ((hb2.mono hbW1).trans hkb3)
      have hkb5 : Below w.heap.size W1 W3 := (hb2.mono hbW1).trans hkb3
      have hbd3 : Lib.IsBuilderF 54 5 w.heap.size w.heap.size (Lib.byteCells (T1 ++ codeText x.1.2.1)) W3 := by
        have h := hbd3'
        rw [strCells_mk, byteCells_append] at h
        exact .inr h
      replace hc1 := (hkb5.cell (p := ⟨x.1.1, 1, none⟩) hxb).trans hc1
      replace hc2 := (hkb5.cell (p := ⟨x.1.1, 2, none⟩) hxb).trans hc2
      have hpow3 := hp.below (hB.trans hkb4)
      have hbW3 : w.heap.size ≤ W3.heap.size := Nat.le_trans hbW2 hkb3.size
      clear hbd1 hbd2 hb2 hbd3' hwl2 hok3 hkb3 hkb5 hpow hc0 hk1 hkb1
      by_cases hpb : placedB x.1.2.2.1 x.1.2.2.2 = true
      · have hone : oneText x.1.2 = codeText x.1.2.1 ++ atText3 x.1.2.2.1 x.1.2.2.2 := if_pos hpb
        rw [hone] at hsn1
        clear hone
        gi_wp2_with (refine ⟨trivial, ?_⟩; gi_at_call 20; refine (CallsIn.inRound l (callsIn_wide.2 (placed_at _ _ _ _ hc1 hc2))).mono ?_; rintro e W4 ⟨rfl, rfl⟩)
        refine Code.wpIn_mono ?_ (region8_in l _ h2 _ _ _ _ _ r1 r2 _ (by simp; omega) W4 hc1 hc2 hpow3 hbd3 hbW3 hxb _ _ _ _ _ _ _ _ _ _ _ _ _ _ _ _ _ _ _ _ _ _ _ _ _ _ _ _ _ _ _ _ _ _)
        rintro e a' W7 ⟨rfl, hb7, hk7, hl7⟩
        refine ⟨hk3.trans hk7, hkb4.trans hl7, ?_, hB.trans (hkb4.trans hl7)⟩
        rw [hsn1.out, ← List.append_assoc]
        exact hb7
      · have hone : oneText x.1.2 = codeText x.1.2.1 := if_neg hpb
        have hpb' : placedB x.1.2.2.1 x.1.2.2.2 = false := by simpa using hpb
        rw [hone] at hsn1
        clear hone hpb
        gi_wp2_with (refine ⟨trivial, ?_⟩; gi_at_call 20; refine (CallsIn.inRound l (callsIn_wide.2 (placed_at _ _ _ _ hc1 hc2))).mono ?_; rintro e W4 ⟨rfl, rfl⟩)
        exact ⟨hk3, hkb4, by rw [hsn1.out]; exact hbd3, hB.trans hkb4⟩
  case done =>
    rintro D ys W hD rfl ⟨hbd, hB⟩ hK
    have hbW : w.heap.size ≤ W.heap.size := hB.size
    gi_wp2_with (refine ⟨trivial, ?_⟩; gi_at_call 25; refine (callsIn_wide.2 (Tryd.Builder_String_any_k w.heap.size w.heap.size _ _ hbd hbW)).mono ?_; rintro e w' ⟨rfl, hbd', hbs, hks⟩)
    have hkk := keeps_of_others hbd hks hbs
    have hK' := hkk.same D _ hK rfl
    refine ⟨by simp, .inl ⟨_, _, rfl, run_takeDeferred hK', ?_⟩⟩
    exact ⟨_, results_tmp rfl _ _ _, by rw [HM.out]; rfl, (hB.trans hbs).trans (belowK_b (w := w) (Nat.le_refl _) _ D _ _ (by simp at hD; omega) hK' rfl rfl)⟩
  case stop =>
    rintro D c pre W _ _ h _
    exact h.elim
end Go.Proofs.YtiidgekembgdcaaDoor
