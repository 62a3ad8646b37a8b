/- strconv.AppendInt onto a row of bytes whatever its mark; print.fact by its contract: a word and its numbers. -/
import Derived.Test.YtpkjhlcolgoknaaDoorQRow
import Derived.Test.YtpkjhlcolgoknaaDoorQPure
import Derived.Test.YtpkjhlcolgoknaaDoorVSl
import Derived.Test.YtpkjhlcolgoknaaDoorShelf
import Derived.Lib.AppendIntMem
import Derived.Lib.BufferKept
import Derived.Lib.Walk
import Derived.Lib.ItoaWalk
import Derived.WalkKit
import Derived.BigCall
import Derived.Shelf.Unicode.PredsPay
namespace Go.Proofs.YtpkjhlcolgoknaaDoor.Prn
set_option linter.unusedVariables false
set_option maxRecDepth 100000
open Go.RowKit Go.Shelf Go.Lib Go.Sort
open Go.Proofs.YtpkjhlcolgoknaaDoor.Ven (Sl intC Cells)

theorem infoByte : (Tryd.prog.info? 5).map (fun i => (i.zero, i.size, i.bytes)) = some (some (.int .u8 0), 1, 1) := by kernel_rfl
/-- The table of the powers of ten. -/
def Pow (w : World) : Prop := Lib.TabIs Tryd.prog w "internal/strconv.uint64pow10" .u64 Lib.pow10Tab
theorem powNamed : Tryd.prog.globalNamed "internal/strconv.uint64pow10" = some 0 := by kernel_rfl
theorem Pow.next {a b : World} (h : Pow a) (hb : Below a.heap.size a b) : Pow b := TabIs_below (g := 0) powNamed h hb
theorem Below.ext {B : Nat} {w w1 w2 : World} (h : Below B w w1) (hB : B ≤ w.heap.size) {row : Option Nat} (hg : w1.grownBy w2 row) (hr : ∀ k, row = some k → B ≤ k) : Below B w w2 := h.grown hg (by have := h.size; omega) hr
set_option maxHeartbeats 6400000 in
theorem uint_small (B u : Nat) (hu : u < 100) (v : Value) (xs : List Value) (w : World) (hown : RowM w B v xs) (hBw : B ≤ w.heap.size) (hlim : xs.length + 20 ≤ 140737488355328) :
    Calls Tryd.prog 53 #[v, .int .u64 u, .int .i64 10] w fun e w' => ∃ v', e = .returned v' ∧ RowM w' B v' (xs ++ byteCells (decDigits u)) ∧ Below B w w' := by
  obtain ⟨i0, hi, hz0, hz1, hz2⟩ := info_parts infoByte
  have hlen : (decDigits u).length ≤ 20 := by
    rw [decDigits_length]
    by_cases h10 : u < 10
    · rw [nDigits_small h10]; omega
    · rw [nDigits_big h10, nDigits_small (show u / 10 < 10 by omega)]; omega
  have hsz : (⟨(decDigits u).toArray⟩ : ByteArray).size = (decDigits u).length := by simp [ByteArray.size]
  have hsc : strCells ⟨(decDigits u).toArray⟩ = byteCells (decDigits u) := by simp [strCells, byteCells]
  go_enter Tryd.func53, Tryd.ntmps53
  go_wp2_with (first
    | (go_at_call 56; refine (Tryd.internal_strconv_small u hu _).mono ?_; rintro e w' ⟨rfl, rfl⟩)
    | (at_builtin; refine wpList_append_m_string _ rfl _ _ 44 9 rfl i0 Tryd.underlying44 Tryd.underlying9 hi hz0 hz1 hz2 B _ _ rfl hown ⟨(decDigits u).toArray⟩ rfl (by rw [hsz]; omega) hBw ?_))
  intro v' w1 hown' hgrow
  go_wp2
  go_ret
  exact ⟨v', rfl, hown', (Below.refl B _).grown hgrow hBw (fun k hk => (hown.lt k hk).1)⟩
set_option maxHeartbeats 12800000 in
theorem uint_big (B u : Nat) (hu : 100 ≤ u) (hu64 : u < 18446744073709551616) (v : Value) (xs : List Value) (w : World) (hown : RowM w B v xs) (hBw : B ≤ w.heap.size) (hlim : xs.length + 20 ≤ 140737488355328) (hpow : Pow w) :
    Calls Tryd.prog 53 #[v, .int .u64 u, .int .i64 10] w fun e w' => ∃ v', e = .returned v' ∧ RowM w' B v' (xs ++ byteCells (decDigits u)) ∧ Below B w w' := by
  obtain ⟨i0, hi, hz0, hz1, hz2⟩ := info_parts infoByte
  have hu1 : 1 ≤ u := by omega
  have hnd20 : nDigits u ≤ 20 := by have := numDigits_eq u hu1 hu64; split at this <;> omega
  have hal : Tryd.prog.arrayLen 79 = 24 := by simp [Program.arrayLen, Tryd.underlying79]
  have hsl : ∀ W, (Instr.sliceAt 79 (.pointer (some ⟨w.heap.size, 0, none⟩)) none (some (.int .i64 (nDigits u : Int))) none).run Tryd.prog W = .ok (.slice (some ⟨w.heap.size, 0, none⟩) (nDigits u) 24) W := fun W => by
    rw [run_sliceAt_array_h W 79 ⟨w.heap.size, 0, none⟩ (by simp [Program.arrayLen, Program.elem, Tryd.underlying79]) .i64 (nDigits u : Int) (by omega) (by rw [hal]; omega)]
    go_simp
  have hH0 := holds_zero0 w 79 (nDigits u) (by omega)
  have hfmt := Tryd.internal_strconv_formatBase10 w.heap.size 0 24 u (Array.replicate (nDigits u) 0) (w.alloc (.cells zeros24 79)) hH0 (by rw [Array.size_replicate]; exact lt_pow_nDigits u) hu64 (by rw [Array.size_replicate]; omega)
  rw [Array.size_replicate] at hfmt
  have HH0 := Lib.hid hH0
  have iu : (100 : Int) ≤ (u : Int) := by omega
  clear hH0 hal
  go_enter Tryd.func53, Tryd.ntmps53
  go_wp2_with (first
    | (go_at_call 57; refine (Tryd.internal_strconv_numDigits u hu1 hu64 _ (Lib.tabIs_alloc hpow _)).mono ?_; rintro e w' ⟨rfl, rfl⟩))
  go_at_call 58
  refine hfmt.mono ?_
  rintro e w' ⟨rfl, k, v', dk, rfl, hF⟩
  have hcells : ∀ j u', (byteCells (decDigits u))[j]? = some u' → ((putRow (fun (b : UInt8) => Value.int .u8 (b.toNat : Int)) (w.alloc (.cells zeros24 79)) w.heap.size 0 dk).drewN k).cell? ((⟨w.heap.size, 0, none⟩ : Addr).add j) = some u' := by
    intro j u' hj
    have hjl : j < (decDigits u).length := by
      have h5 := (List.getElem?_eq_some_iff.1 hj).1
      rwa [byteCells_length] at h5
    have e5 : (byteCells (decDigits u))[j]? = some (Value.int .u8 ((decDigits u)[j].toNat : Int)) := by simp [byteCells, hjl]
    rw [e5] at hj
    cases hj
    rw [row_is_numeral hF j hjl, add_plain, World.cell?_drewN]
    exact cell?_putRow (fun (b : UInt8) => Value.int .u8 (b.toNat : Int)) _ w.heap.size 0 _ dk HH0.out (by rw [hF.size, Array.size_replicate]) j (by rw [hF.size]; rw [decDigits_length] at hjl; exact hjl)
  obtain ⟨os, eo⟩ := fin_at w (.cells zeros24 79) dk k 0
  have hbb : Below w.heap.size w ((putRow (fun (b : UInt8) => Value.int .u8 (b.toNat : Int)) (w.alloc (.cells zeros24 79)) w.heap.size 0 dk).drewN k) := by rw [eo]; exact below_grow w.heap.size w (Nat.le_refl _) k os
  have hown2 := hown.next hbb
  have hnx2 : Below B w ((putRow (fun (b : UInt8) => Value.int .u8 (b.toNat : Int)) (w.alloc (.cells zeros24 79)) w.heap.size 0 dk).drewN k) := hbb.mono hBw
  have hsz2 : w.heap.size ≤ ((putRow (fun (b : UInt8) => Value.int .u8 (b.toNat : Int)) (w.alloc (.cells zeros24 79)) w.heap.size 0 dk).drewN k).heap.size := hbb.size
  generalize (putRow (fun (b : UInt8) => Value.int .u8 (b.toNat : Int)) (w.alloc (.cells zeros24 79)) w.heap.size 0 dk).drewN k = W2 at hcells hown2 hnx2 hsz2 ⊢
  clear eo HH0 hfmt hbb
  go_wp2_with (at_builtin; refine wpList_append_m _ rfl _ _ 44 rfl i0 Tryd.underlying44 hi hz0 hz1 hz2 B _ _ rfl hown2 ⟨w.heap.size, 0, none⟩ (nDigits u) 24 (byteCells (decDigits u)) rfl ?c0 hcells ?c2 ?c4 ?c5 ?_)
  case c0 => rw [byteCells_length, decDigits_length]
  case c2 => intro u' hu'; simp only [byteCells, List.mem_map] at hu'; obtain ⟨b, _, rfl⟩ := hu'; rfl
  case c4 => omega
  case c5 => omega
  intro v2 w3 hown' hgrow
  go_wp2
  go_ret
  exact ⟨v2, rfl, hown', hnx2.grown hgrow (by omega) (fun k hk => (hown2.lt k hk).1)⟩
theorem uint_any (B u : Nat) (hu64 : u < 18446744073709551616) (v : Value) (xs : List Value) (w : World) (hown : RowM w B v xs) (hBw : B ≤ w.heap.size) (hlim : xs.length + 20 ≤ 140737488355328) (hpow : Pow w) :
    Calls Tryd.prog 53 #[v, .int .u64 u, .int .i64 10] w fun e w' => ∃ v', e = .returned v' ∧ RowM w' B v' (xs ++ byteCells (decDigits u)) ∧ Below B w w' := by
  by_cases h : u < 100
  · exact uint_small B u h v xs w hown hBw hlim
  · exact uint_big B u (by omega) hu64 v xs w hown hBw hlim hpow
set_option maxHeartbeats 6400000 in
theorem int_any (B : Nat) (i : Int) (hi64 : I64 i) (v : Value) (xs : List Value) (w : World) (hown : RowM w B v xs) (hBw : B ≤ w.heap.size) (hlim : xs.length + 21 ≤ 140737488355328) (hpow : ∀ w', Below B w w' → Pow w') :
    Calls Tryd.prog 41 #[v, .int .i64 i, .int .i64 10] w fun e w' => ∃ v', e = .returned v' ∧ RowM w' B v' (xs ++ byteCells (itoa i)) ∧ Below B w w' := by
  obtain ⟨i0, hi, hz0, hz1, hz2⟩ := info_parts infoByte
  obtain ⟨h0, h1⟩ := hi64
  by_cases hneg : i < 0
  · obtain ⟨u, rfl⟩ : ∃ u : Nat, i = -(u : Int) := ⟨i.natAbs, by omega⟩
    have hu1 : 1 ≤ u := by omega
    have hu64 : u < 18446744073709551616 := by omega
    have hwr : IntKind.u64.wrap (-IntKind.u64.wrap (-(u : Int))) = (u : Int) := by rw [IntKind.wrap_u64, IntKind.wrap_u64]; omega
    rw [itoa_neg u hu1]
    have hal := hown.next ((Below.refl w.heap.size w).alloc (Nat.le_refl _) (.cells #[.int .u8 45] 5))
    go_enter Tryd.func41, Tryd.ntmps41
    go_wp2_with (at_builtin; refine wpList_append_m _ rfl _ _ 44 rfl i0 Tryd.underlying44 hi hz0 hz1 hz2 B _ _ rfl hal ⟨w.heap.size, 0, none⟩ 1 1 [Value.int .u8 45] rfl rfl (by intro j u' hj; match j, hj with | 0, hj => simp at hj; subst hj; simp [Addr.add]) (by intro u' hu'; simp at hu'; subst hu'; rfl) (by omega) (by simp; omega) ?_)
    intro v1 w1 hown1 hgrow
    have hnx1 : Below B w w1 := ((Below.refl B w).alloc hBw _).grown hgrow (by simp; omega) (fun k hk => (hown.lt k hk).1)
    go_wp2_with (go_at_call 53; refine (uint_any B u hu64 v1 _ w1 hown1 (by have := hnx1.size; omega) (by simp; omega) (hpow _ hnx1)).mono ?_; rintro e w2 ⟨v2, rfl, hown2, hnx2⟩)
    go_wp2
    go_ret
    refine ⟨v2, rfl, ?_, hnx1.trans hnx2⟩
    have e2 : xs ++ byteCells (45 :: decDigits u) = xs ++ [Value.int .u8 45] ++ byteCells (decDigits u) := by simp [byteCells]
    rw [e2]
    exact hown2
  · obtain ⟨u, rfl⟩ : ∃ u : Nat, i = u := ⟨i.toNat, by omega⟩
    have hu64 : u < 18446744073709551616 := by omega
    rw [itoa_nonneg]
    go_enter Tryd.func41, Tryd.ntmps41
    go_wp2_with (go_at_call 53; refine (uint_any B u hu64 v xs w hown hBw (by omega) (hpow _ (Below.refl _ _))).mono ?_; rintro e w2 ⟨v2, rfl, hown2, hnx2⟩)
    go_wp2
    first | go_ret | go_ret2
    exact ⟨v2, rfl, hown2, hnx2⟩
set_option maxHeartbeats 1000000 in
theorem appendInt_any (B : Nat) (i : Int) (hi64 : I64 i) (v : Value) (xs : List Value) (w : World) (hown : RowM w B v xs) (hBw : B ≤ w.heap.size) (hlim : xs.length + 21 ≤ 140737488355328) (hpow : ∀ w', Below B w w' → Pow w') :
    Calls Tryd.prog 31 #[v, .int .i64 i, .int .i64 10] w fun e w' => ∃ v', e = .returned v' ∧ RowM w' B v' (xs ++ byteCells (itoa i)) ∧ Below B w w' := by
  go_enter Tryd.func31, Tryd.ntmps31
  go_wp2_with (go_at_call 41; refine (int_any B i hi64 v xs w hown hBw hlim hpow).mono ?_; rintro e w2 ⟨v2, rfl, hown2, hnx2⟩)
  go_wp2
  go_ret
  exact ⟨v2, rfl, hown2, hnx2⟩
theorem cellsInt {w : World} {b off : Nat} {l : List Int} (h : Cells 1 intC w b off l) (k : Nat) (hk : k < l.length) : w.cell? ⟨b, off + k, none⟩ = some (.int .i64 l[k]) := by
  have := h.2 k hk 0 _ rfl
  simpa using this
set_option maxHeartbeats 4000000 in
/-- print.fact: a word and its numbers. -/
theorem fact_any (W : List UInt8) (hW : W.length ≤ 20) (ns : List Int) (hns : ∀ n ∈ ns, I64 n) (hl : ns.length ≤ 3) (b off cap : Nat) (w : World) (hC : Cells 1 intC w b off ns) (hp : Pow w) :
    Calls Tryd.prog 18 #[.string ⟨W.toArray⟩, .slice (some ⟨b, off, none⟩) ns.length cap] w fun e w' => e = .returned (.string ⟨(factL W ns).toArray⟩) ∧ Below w.heap.size w w' := by
  obtain ⟨i0, hi, hz0, hz1, hz2⟩ := info_parts infoByte
  have hcv := Go.Lib.run_convert_string_bytes (P := Tryd.prog) w 9 44 5 ⟨W.toArray⟩ Tryd.underlying9 Tryd.underlying44 Tryd.underlying5
  have HR0 : Hid (RowM (bytesWorld w 5 ⟨W.toArray⟩) w.heap.size (.slice (some ⟨w.heap.size, 0, none⟩) W.length (grownCap w W.length 0 5)) (byteCells W)) := RowM.made w w.heap.size (Nat.le_refl _) W (by omega)
  have HB0 : Hid (Below w.heap.size w (bytesWorld w 5 ⟨W.toArray⟩)) := bytes_below w W
  have HC : Hid (Cells 1 intC w b off ns) := hC
  have HP : Hid (Pow w) := hp
  have HN : Hid (∀ n ∈ ns, I64 n) := hns
  have hsz : (⟨W.toArray⟩ : ByteArray).size = W.length := rfl
  rw [hsz] at hcv
  clear hC hp hns hsz
  generalize bytesWorld w 5 ⟨W.toArray⟩ = w1 at hcv HR0 HB0
  generalize Value.slice (some ⟨w.heap.size, 0, none⟩) W.length (grownCap w W.length 0 5) = v0 at hcv HR0
  go_enter Tryd.func18, Tryd.ntmps18
  go_wp2
  clear hcv
  go_loopw [5, 12] (fun v i wr => ∃ k : Nat, k ≤ ns.length ∧ i = .int .i64 k ∧ Hid (RowM wr w.heap.size v (byteCells (W ++ numsL (ns.take k)))) ∧ Hid (Below w.heap.size w wr)) (fun _ i _ => ns.length - (intOf i).toNat)
  case atStart => exact ⟨0, Nat.zero_le _, rfl, by simpa [numsL] using HR0, HB0⟩
  case round =>
    obtain ⟨k, hk, rfl, HR, HB⟩ := hrel
    by_cases hlt : k < ns.length
    · have hltz : (k : Int) < (ns.length : Int) := by omega
      have hcell : wr.cell? ⟨b, off + k, none⟩ = some (.int .i64 ns[k]) := (HB.out.cell (p := ⟨b, off + k, none⟩) HC.out.1).trans (cellsInt HC.out k hlt)
      have hn : I64 ns[k] := HN.out _ (List.getElem_mem hlt)
      have hlen : (W ++ numsL (ns.take k)).length ≤ 100 := by
        have h1 := numsL_len (ns.take k) (fun n hn' => HN.out n (List.mem_of_mem_take hn'))
        rw [List.length_take] at h1
        rw [List.length_append]; omega
      have HX : Hid (W ++ numsL (ns.take (k + 1)) = W ++ numsL (ns.take k) ++ [32] ++ itoa ns[k]) := by
        show _ = _
        rw [List.take_succ_eq_append_getElem hlt, numsL_snoc]; simp
      generalize hz : ns[k] = z at hcell hn HX
      generalize W ++ numsL (ns.take k) = X at HR hlen HX
      clear hz
      have hsw := HB.out.size
      have HA : Hid (RowM (wr.alloc (.cells #[.int .u8 32] 5)) w.heap.size u5 (byteCells X)) := HR.out.next ((Below.refl wr.heap.size wr).alloc (Nat.le_refl _) _)
      have hbl := byteCells_length X
      go_wp2_with (at_builtin; refine wpList_append_m _ rfl _ _ 44 rfl i0 Tryd.underlying44 hi hz0 hz1 hz2 w.heap.size _ _ rfl HA.out ⟨wr.heap.size, 0, none⟩ 1 1 [Value.int .u8 32] rfl rfl (by intro j u' hj; match j, hj with | 0, hj => simp at hj; subst hj; simp [Addr.add]) (by intro u' hu'; simp at hu'; subst hu'; rfl) (by omega) (by simp; omega) ?_)
      intro v1 w2 hown1 hgrow
      have hb2 : Below w.heap.size w w2 := (HB.out.alloc HB.out.size _).grown hgrow (by simp; omega) (fun g hg => (HA.out.lt g hg).1)
      have HB2 : Hid (Below w.heap.size w w2) := hb2
      have hR2 : RowM w2 w.heap.size v1 (byteCells (X ++ [32])) := by
        have e : byteCells (X ++ [32]) = byteCells X ++ [Value.int .u8 32] := by simp [byteCells]
        rw [e]; exact hown1
      clear hown1 hgrow HA HR HB hb2
      go_wp2_with (go_at_call 31; refine (appendInt_any w.heap.size z hn v1 _ w2 hR2 HB2.out.size (by rw [byteCells_length]; simp; omega) (fun w' hb => HP.out.next (HB2.out.trans hb))).mono ?_; rintro e w3 ⟨v2, rfl, hR3, hb3⟩)
      go_roundw
      case rel =>
        refine ⟨k + 1, by omega, by go_num, ?_, HB2.out.trans hb3⟩
        rw [HX.out]
        have e : byteCells (X ++ [32] ++ itoa z) = byteCells (X ++ [32]) ++ byteCells (itoa z) := by simp [byteCells]
        rw [e]; exact hR3
      case measure => simp [intOf]; omega
    · have hltz : ¬ (k : Int) < (ns.length : Int) := by omega
      obtain ⟨g, cap', rfl, hgl, hby⟩ := HR.out.bytes
      have hcv := Lib.run_convert_whole (P := Tryd.prog) wr 44 5 9 Tryd.underlying44 Tryd.underlying5 Tryd.underlying9 g 0 ⟨(W ++ numsL (ns.take k)).toArray⟩ hby cap'
      have hsz : (⟨(W ++ numsL (ns.take k)).toArray⟩ : ByteArray).size = (W ++ numsL (ns.take k)).length := rfl
      rw [hsz] at hcv
      have HX : Hid (W ++ numsL (ns.take k) = factL W ns) := by
        show _ = _
        rw [List.take_of_length_le (by omega)]; rfl
      clear hby hsz HR
      generalize W ++ numsL (ns.take k) = X at hcv HX
      go_wp2
      go_ret
      exact ⟨congrArg (fun z : List UInt8 => Ending.returned (Value.string ⟨z.toArray⟩)) HX.out, HB.out⟩
end Go.Proofs.YtpkjhlcolgoknaaDoor.Prn
