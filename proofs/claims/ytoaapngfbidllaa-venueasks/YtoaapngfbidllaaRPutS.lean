/- The statement of parterreref2.put that appends three times, at a row that is there: it draws its order: a fact for each state of what is done. -/
import Derived.Test.YtoaapngfbidllaaIns
namespace Go.Proofs.Ytoaapngfbidllaa
set_option linter.unusedVariables false
open Go.RowKit Go.Shelf

/-- The operations of the statement. -/
def ops25_6s : Array Oper := #[{ dst := some 33, op := Op.buildSlice 23 0 #[], type := 23, pos := "ref.go:214", after := #[], guard := none }, { dst := some 34, op := Op.move (Operand.tmp 0), type := 23, pos := "ref.go:214", after := #[], guard := none }, { dst := some 35, op := Op.move (Operand.tmp 5), type := 3, pos := "ref.go:214", after := #[], guard := none }, { dst := some 36, op := Op.slice 23 (Operand.tmp 34) none (some (Operand.tmp 35)) none, type := 23, pos := "ref.go:214", after := #[{ on := 1, ground := Ground.data }, { on := 2, ground := Ground.data }], guard := none }, { dst := some 37, op := Op.call { callee := Callee.builtin Builtin.append, args := #[Operand.tmp 33, Operand.tmp 36], argTypes := #[23, 23] }, type := 23, pos := "ref.go:214", after := #[{ on := 0, ground := Ground.data }, { on := 3, ground := Ground.data }], guard := none }, { dst := some 38, op := Op.move (Operand.tmp 1), type := 3, pos := "ref.go:214", after := #[], guard := none }, { dst := some 39, op := Op.buildSlice 23 1 #[(0, Operand.tmp 38)], type := 23, pos := "ref.go:214", after := #[{ on := 5, ground := Ground.data }], guard := none }, { dst := some 40, op := Op.call { callee := Callee.builtin Builtin.append, args := #[Operand.tmp 37, Operand.tmp 39], argTypes := #[23, 23] }, type := 23, pos := "ref.go:214", after := #[{ on := 4, ground := Ground.data }, { on := 6, ground := Ground.data }, { on := 4, ground := Ground.chain }], guard := none }, { dst := some 41, op := Op.move (Operand.tmp 0), type := 23, pos := "ref.go:214", after := #[], guard := none }, { dst := some 42, op := Op.move (Operand.tmp 5), type := 3, pos := "ref.go:214", after := #[], guard := none }, { dst := some 43, op := Op.slice 23 (Operand.tmp 41) (some (Operand.tmp 42)) none none, type := 23, pos := "ref.go:214", after := #[{ on := 8, ground := Ground.data }, { on := 9, ground := Ground.data }], guard := none }, { dst := some 44, op := Op.call { callee := Callee.builtin Builtin.append, args := #[Operand.tmp 40, Operand.tmp 43], argTypes := #[23, 23] }, type := 23, pos := "ref.go:214", after := #[{ on := 7, ground := Ground.data }, { on := 10, ground := Ground.data }, { on := 7, ground := Ground.chain }], guard := none }, { dst := some 4, op := Op.assign (Operand.tmp 44), type := 23, pos := "ref.go:214", after := #[{ on := 11, ground := Ground.data }, { on := 11, ground := Ground.chain }, { on := 0, ground := Ground.phase }, { on := 1, ground := Ground.phase }, { on := 2, ground := Ground.phase }, { on := 3, ground := Ground.phase }, { on := 4, ground := Ground.phase }, { on := 5, ground := Ground.phase }, { on := 6, ground := Ground.phase }, { on := 7, ground := Ground.phase }, { on := 8, ground := Ground.phase }, { on := 9, ground := Ground.phase }, { on := 10, ground := Ground.phase }, { on := 11, ground := Ground.phase }], guard := none }]
set_option maxRecDepth 100000 in
set_option maxHeartbeats 32000000 in
theorem region25_6s (Q : Exit → Act → World → Prop) (hQp : ∀ c a a' w, Q (.panic c) a w → Q (.panic c) a' w) (l : List Int) (b off c j : Nat) (hj : j ≤ l.length) (hlc : l.length ≤ c) (hl30 : l.length ≤ 5000) (hcm : c ≤ 9223372036854775807) (A : Addr) (hA : (if c = j then some (⟨b, off, none⟩ : Addr) else some ⟨b, off + j, none⟩) = some A) (z : Int) (W0 : World) (hC0 : Cells 1 intC W0 b off l)
    (A2 A3 A4 A6 A7 A8 A9 B0 B1 B2 B3 B4 B5 B6 B7 B8 B9 C0 C1 C2 C3 C4 C5 C6 C7 C8 C9 D0 D1 D2 D3 D4 D5 D6 D7 D8 D9 E0 E1 E2 E3 E4 : Value)
    (hQ : ∀ W' e0 a5 c5 g7 a8 c8 a13 c13, Below W0.heap.size W0 W' → W'.ownsRow W0.heap.size 3 1 (.slice a13 (l.length + 1) c13) (l.length + 1) ((l.take j).flatMap intC ++ intC z ++ (l.drop j).flatMap intC) → Q .normal { tmps := (.slice (some ⟨b, off, none⟩) l.length c::.int .i64 z::A2::A3::.slice a13 (l.length + 1) c13::.int .i64 (j : Int)::A6::A7::A8::A9::B0::B1::B2::B3::B4::B5::B6::B7::B8::B9::C0::C1::C2::C3::C4::C5::C6::C7::C8::C9::D0::D1::D2::.slice (some ⟨e0, 0, none⟩) 0 0::.slice (some ⟨b, off, none⟩) l.length c::.int .i64 (j : Int)::.slice (some ⟨b, off, none⟩) j c::.slice a5 j c5::.int .i64 z::.slice (some ⟨g7, 0, none⟩) 1 1::.slice a8 (j + 1) c8::.slice (some ⟨b, off, none⟩) l.length c::.int .i64 (j : Int)::.slice (some A) (l.length - j) (c - j)::.slice a13 (l.length + 1) c13::[]).toArray, defers := [] } W') :
    (Code.region 6 #[{ dst := some 33, op := Op.buildSlice 23 0 #[], type := 23, pos := "ref.go:214", after := #[], guard := none }, { dst := some 34, op := Op.move (Operand.tmp 0), type := 23, pos := "ref.go:214", after := #[], guard := none }, { dst := some 35, op := Op.move (Operand.tmp 5), type := 3, pos := "ref.go:214", after := #[], guard := none }, { dst := some 36, op := Op.slice 23 (Operand.tmp 34) none (some (Operand.tmp 35)) none, type := 23, pos := "ref.go:214", after := #[{ on := 1, ground := Ground.data }, { on := 2, ground := Ground.data }], guard := none }, { dst := some 37, op := Op.call { callee := Callee.builtin Builtin.append, args := #[Operand.tmp 33, Operand.tmp 36], argTypes := #[23, 23] }, type := 23, pos := "ref.go:214", after := #[{ on := 0, ground := Ground.data }, { on := 3, ground := Ground.data }], guard := none }, { dst := some 38, op := Op.move (Operand.tmp 1), type := 3, pos := "ref.go:214", after := #[], guard := none }, { dst := some 39, op := Op.buildSlice 23 1 #[(0, Operand.tmp 38)], type := 23, pos := "ref.go:214", after := #[{ on := 5, ground := Ground.data }], guard := none }, { dst := some 40, op := Op.call { callee := Callee.builtin Builtin.append, args := #[Operand.tmp 37, Operand.tmp 39], argTypes := #[23, 23] }, type := 23, pos := "ref.go:214", after := #[{ on := 4, ground := Ground.data }, { on := 6, ground := Ground.data }, { on := 4, ground := Ground.chain }], guard := none }, { dst := some 41, op := Op.move (Operand.tmp 0), type := 23, pos := "ref.go:214", after := #[], guard := none }, { dst := some 42, op := Op.move (Operand.tmp 5), type := 3, pos := "ref.go:214", after := #[], guard := none }, { dst := some 43, op := Op.slice 23 (Operand.tmp 41) (some (Operand.tmp 42)) none none, type := 23, pos := "ref.go:214", after := #[{ on := 8, ground := Ground.data }, { on := 9, ground := Ground.data }], guard := none }, { dst := some 44, op := Op.call { callee := Callee.builtin Builtin.append, args := #[Operand.tmp 40, Operand.tmp 43], argTypes := #[23, 23] }, type := 23, pos := "ref.go:214", after := #[{ on := 7, ground := Ground.data }, { on := 10, ground := Ground.data }, { on := 7, ground := Ground.chain }], guard := none }, { dst := some 4, op := Op.assign (Operand.tmp 44), type := 23, pos := "ref.go:214", after := #[{ on := 11, ground := Ground.data }, { on := 11, ground := Ground.chain }, { on := 0, ground := Ground.phase }, { on := 1, ground := Ground.phase }, { on := 2, ground := Ground.phase }, { on := 3, ground := Ground.phase }, { on := 4, ground := Ground.phase }, { on := 5, ground := Ground.phase }, { on := 6, ground := Ground.phase }, { on := 7, ground := Ground.phase }, { on := 8, ground := Ground.phase }, { on := 9, ground := Ground.phase }, { on := 10, ground := Ground.phase }, { on := 11, ground := Ground.phase }], guard := none }] true).wp Try.prog Q { tmps := (.slice (some ⟨b, off, none⟩) l.length c::.int .i64 z::A2::A3::A4::.int .i64 (j : Int)::A6::A7::A8::A9::B0::B1::B2::B3::B4::B5::B6::B7::B8::B9::C0::C1::C2::C3::C4::C5::C6::C7::C8::C9::D0::D1::D2::D3::D4::D5::D6::D7::D8::D9::E0::E1::E2::E3::E4::[]).toArray, defers := [] } W0 := by
  obtain ⟨i0, hi, hz0, hz1, hz2⟩ := info3
  obtain ⟨W, hWd⟩ : ∃ W, W = W0.drew := ⟨_, rfl⟩
  have hszd : W.heap.size = W0.heap.size := by rw [hWd]; rfl
  have hbd : Below W0.heap.size W0 W := by rw [hWd]; exact (Below.refl _ W0).drew
  have hC := hC0.next hbd
  have hjz : (j : Int) ≤ (l.length : Int) := by omega
  have hjc : (j : Int) ≤ (c : Int) := by omega
  have hA2 : ∀ W', Below W.heap.size W W' → ∀ q u, ((l.drop j).flatMap intC)[q]? = some u → W'.cell? (A.add q) = some u := by
    intro W' hb q u hq
    by_cases hcj : c = j
    · have hd : l.drop j = [] := List.drop_of_length_le (by omega)
      rw [hd] at hq; simp at hq
    · rw [if_neg hcj] at hA
      injection hA with hA
      subst hA
      rw [Addr.add_lit]
      have := (hC.next hb).flat_dropG intC_len (by omega) hj q u hq
      simpa using this
  have HQ : Hid (∀ W' e0 a5 c5 g7 a8 c8 a13 c13, Below W.heap.size W W' → W'.ownsRow W.heap.size 3 1 (.slice a13 (l.length + 1) c13) (l.length + 1) ((l.take j).flatMap intC ++ intC z ++ (l.drop j).flatMap intC) → Q .normal { tmps := (.slice (some ⟨b, off, none⟩) l.length c::.int .i64 z::A2::A3::.slice a13 (l.length + 1) c13::.int .i64 (j : Int)::A6::A7::A8::A9::B0::B1::B2::B3::B4::B5::B6::B7::B8::B9::C0::C1::C2::C3::C4::C5::C6::C7::C8::C9::D0::D1::D2::.slice (some ⟨e0, 0, none⟩) 0 0::.slice (some ⟨b, off, none⟩) l.length c::.int .i64 (j : Int)::.slice (some ⟨b, off, none⟩) j c::.slice a5 j c5::.int .i64 z::.slice (some ⟨g7, 0, none⟩) 1 1::.slice a8 (j + 1) c8::.slice (some ⟨b, off, none⟩) l.length c::.int .i64 (j : Int)::.slice (some A) (l.length - j) (c - j)::.slice a13 (l.length + 1) c13::[]).toArray, defers := [] } W') := by
    show ∀ W' e0 a5 c5 g7 a8 c8 a13 c13, Below W.heap.size W W' → W'.ownsRow W.heap.size 3 1 (.slice a13 (l.length + 1) c13) (l.length + 1) ((l.take j).flatMap intC ++ intC z ++ (l.drop j).flatMap intC) → Q .normal { tmps := (.slice (some ⟨b, off, none⟩) l.length c::.int .i64 z::A2::A3::.slice a13 (l.length + 1) c13::.int .i64 (j : Int)::A6::A7::A8::A9::B0::B1::B2::B3::B4::B5::B6::B7::B8::B9::C0::C1::C2::C3::C4::C5::C6::C7::C8::C9::D0::D1::D2::.slice (some ⟨e0, 0, none⟩) 0 0::.slice (some ⟨b, off, none⟩) l.length c::.int .i64 (j : Int)::.slice (some ⟨b, off, none⟩) j c::.slice a5 j c5::.int .i64 z::.slice (some ⟨g7, 0, none⟩) 1 1::.slice a8 (j + 1) c8::.slice (some ⟨b, off, none⟩) l.length c::.int .i64 (j : Int)::.slice (some A) (l.length - j) (c - j)::.slice a13 (l.length + 1) c13::[]).toArray, defers := [] } W'
    rw [hszd]
    exact fun W' e0 a5 c5 g7 a8 c8 a13 c13 h1 h2 => hQ W' e0 a5 c5 g7 a8 c8 a13 c13 (hbd.trans h1) h2
  have HQp : Hid (∀ c a a' w, Q (.panic c) a w → Q (.panic c) a' w) := hQp
  clear hQ hQp hC0 hbd
  have s0_4_6_7_11 : ∀ W', Below W.heap.size W W' → ∀ e0, ∀ a5 c5, ∀ g7, ∀ a8 c8, ∀ a13 c13, W'.ownsRow W.heap.size 3 1 (.slice a13 (l.length + 1) c13) (l.length + 1) ((l.take j).flatMap intC ++ intC z ++ (l.drop j).flatMap intC) → wpAny Try.prog .any ops25_6s Q 0 (true::true::true::true::true::true::true::true::true::true::true::true::true::[]).toArray { tmps := (.slice (some ⟨b, off, none⟩) l.length c::.int .i64 z::A2::A3::.slice a13 (l.length + 1) c13::.int .i64 (j : Int)::A6::A7::A8::A9::B0::B1::B2::B3::B4::B5::B6::B7::B8::B9::C0::C1::C2::C3::C4::C5::C6::C7::C8::C9::D0::D1::D2::.slice (some ⟨e0, 0, none⟩) 0 0::.slice (some ⟨b, off, none⟩) l.length c::.int .i64 (j : Int)::.slice (some ⟨b, off, none⟩) j c::.slice a5 j c5::.int .i64 z::.slice (some ⟨g7, 0, none⟩) 1 1::.slice a8 (j + 1) c8::.slice (some ⟨b, off, none⟩) l.length c::.int .i64 (j : Int)::.slice (some A) (l.length - j) (c - j)::.slice a13 (l.length + 1) c13::[]).toArray, defers := [] } W' := by
    delta ops25_6s
    intro W' hb e0 a5 c5 g7 a8 c8 a13 c13 hown
    refine wpAny_done (by kernel_rfl) ?_ _
    exact HQ.out W' e0 a5 c5 g7 a8 c8 a13 c13 hb hown
  have s0_4_6_7 : ∀ W', Below W.heap.size W W' → ∀ e0, ∀ a5 c5, ∀ g7, ∀ a8 c8, W'.ownsRow W.heap.size 3 1 (.slice a8 (j + 1) c8) (j + 1) ((l.take j).flatMap intC ++ intC z) → wpAny Try.prog .any ops25_6s Q 2 (true::true::true::true::true::true::true::true::true::true::true::false::false::[]).toArray { tmps := (.slice (some ⟨b, off, none⟩) l.length c::.int .i64 z::A2::A3::A4::.int .i64 (j : Int)::A6::A7::A8::A9::B0::B1::B2::B3::B4::B5::B6::B7::B8::B9::C0::C1::C2::C3::C4::C5::C6::C7::C8::C9::D0::D1::D2::.slice (some ⟨e0, 0, none⟩) 0 0::.slice (some ⟨b, off, none⟩) l.length c::.int .i64 (j : Int)::.slice (some ⟨b, off, none⟩) j c::.slice a5 j c5::.int .i64 z::.slice (some ⟨g7, 0, none⟩) 1 1::.slice a8 (j + 1) c8::.slice (some ⟨b, off, none⟩) l.length c::.int .i64 (j : Int)::.slice (some A) (l.length - j) (c - j)::E4::[]).toArray, defers := [] } W' := by
    delta ops25_6s
    intro W' hb e0 a5 c5 g7 a8 c8 hown
    refine wpAny_ready (rs := [11]) (by kernel_rfl) (by simp) ?_
    refine AllReady.cons rfl (fun K hK => ?_) (AllReady.nil)
    ·
      refine step_append_own_at rfl _ _ 23 rfl W.heap.size 3 i0 (.int .i64 0) 1 8 Try.underlying23 hi hz0 hz1 hz2 rfl (by omega) _ _ _ rfl hown A (l.length - j) (c - j) ((l.drop j).flatMap intC) rfl (by rw [flat_len intC 1 intC_len, List.length_drop]) (fun q u hq => hA2 W' hb q u hq) (fun u hu => int_one _ u hu) (by unfold maxLen; omega) (by omega) hb.size ?_
      intro v2 w2 hown2 hgr hloc
      rw [show j + 1 + (l.length - j) = l.length + 1 by omega] at hown2
      obtain ⟨a13, c13, rfl⟩ := row_slice hown2
      refine hK _ _ ?_
      clear hK K
      refine wpAny_at (listed' := (true::true::true::true::true::true::true::true::true::true::true::true::false::[]).toArray) (a' := { tmps := (.slice (some ⟨b, off, none⟩) l.length c::.int .i64 z::A2::A3::A4::.int .i64 (j : Int)::A6::A7::A8::A9::B0::B1::B2::B3::B4::B5::B6::B7::B8::B9::C0::C1::C2::C3::C4::C5::C6::C7::C8::C9::D0::D1::D2::.slice (some ⟨e0, 0, none⟩) 0 0::.slice (some ⟨b, off, none⟩) l.length c::.int .i64 (j : Int)::.slice (some ⟨b, off, none⟩) j c::.slice a5 j c5::.int .i64 z::.slice (some ⟨g7, 0, none⟩) 1 1::.slice a8 (j + 1) c8::.slice (some ⟨b, off, none⟩) l.length c::.int .i64 (j : Int)::.slice (some A) (l.length - j) (c - j)::.slice a13 (l.length + 1) c13::[]).toArray, defers := [] }) (by kernel_rfl) (by kernel_rfl) ?_
      refine wpAny_take (i := 12) (v := .slice a13 (l.length + 1) c13) rfl (by kernel_rfl) (by kernel_rfl) (by kernel_rfl) (fun _ _ _ h => HQp.out _ _ _ _ h) (Or.inl ⟨by rfl, by intro w; go_simp⟩) ?_
      refine wpAny_at (listed' := (true::true::true::true::true::true::true::true::true::true::true::true::true::[]).toArray) (a' := { tmps := (.slice (some ⟨b, off, none⟩) l.length c::.int .i64 z::A2::A3::.slice a13 (l.length + 1) c13::.int .i64 (j : Int)::A6::A7::A8::A9::B0::B1::B2::B3::B4::B5::B6::B7::B8::B9::C0::C1::C2::C3::C4::C5::C6::C7::C8::C9::D0::D1::D2::.slice (some ⟨e0, 0, none⟩) 0 0::.slice (some ⟨b, off, none⟩) l.length c::.int .i64 (j : Int)::.slice (some ⟨b, off, none⟩) j c::.slice a5 j c5::.int .i64 z::.slice (some ⟨g7, 0, none⟩) 1 1::.slice a8 (j + 1) c8::.slice (some ⟨b, off, none⟩) l.length c::.int .i64 (j : Int)::.slice (some A) (l.length - j) (c - j)::.slice a13 (l.length + 1) c13::[]).toArray, defers := [] }) (by kernel_rfl) (by kernel_rfl) ?_
      exact s0_4_6_7_11 w2 (hb.grown hgr hb.size (row_high hown)) e0 a5 c5 g7 a8 c8 a13 c13 (hown2)
  have s0_4_6 : ∀ W', Below W.heap.size W W' → ∀ e0, ∀ a5 c5, ∀ g7, W'.ownsRow W.heap.size 3 1 (.slice a5 j c5) j ((l.take j).flatMap intC) → Box W' g7 3 #[.int .i64 z] → (Value.slice a5 j c5).ownBlock ≠ some g7 → wpAny Try.prog .any ops25_6s Q 3 (true::true::true::true::true::true::true::false::true::true::true::false::false::[]).toArray { tmps := (.slice (some ⟨b, off, none⟩) l.length c::.int .i64 z::A2::A3::A4::.int .i64 (j : Int)::A6::A7::A8::A9::B0::B1::B2::B3::B4::B5::B6::B7::B8::B9::C0::C1::C2::C3::C4::C5::C6::C7::C8::C9::D0::D1::D2::.slice (some ⟨e0, 0, none⟩) 0 0::.slice (some ⟨b, off, none⟩) l.length c::.int .i64 (j : Int)::.slice (some ⟨b, off, none⟩) j c::.slice a5 j c5::.int .i64 z::.slice (some ⟨g7, 0, none⟩) 1 1::E0::.slice (some ⟨b, off, none⟩) l.length c::.int .i64 (j : Int)::.slice (some A) (l.length - j) (c - j)::E4::[]).toArray, defers := [] } W' := by
    delta ops25_6s
    intro W' hb e0 a5 c5 g7 hown hS hap
    refine wpAny_ready (rs := [7]) (by kernel_rfl) (by simp) ?_
    refine AllReady.cons rfl (fun K hK => ?_) (AllReady.nil)
    ·
      refine step_append_own_at rfl _ _ 23 rfl W.heap.size 3 i0 (.int .i64 0) 1 8 Try.underlying23 hi hz0 hz1 hz2 rfl (by omega) _ _ _ rfl hown ⟨g7, 0, none⟩ 1 1 (intC z) rfl rfl (fun q u hq => by rw [Addr.add_lit, Nat.zero_add]; exact hS.cell q u (by show (intC z).toArray[q]? = some u; rw [List.getElem?_toArray]; exact hq)) (fun u hu => int_one [z] u (by simpa using hu)) (by unfold maxLen; omega) (by omega) hb.size ?_
      intro v2 w2 hown2 hgr hloc
      skip
      obtain ⟨a8, c8, rfl⟩ := row_slice hown2
      refine hK _ _ ?_
      clear hK K
      refine wpAny_at (listed' := (true::true::true::true::true::true::true::true::true::true::true::false::false::[]).toArray) (a' := { tmps := (.slice (some ⟨b, off, none⟩) l.length c::.int .i64 z::A2::A3::A4::.int .i64 (j : Int)::A6::A7::A8::A9::B0::B1::B2::B3::B4::B5::B6::B7::B8::B9::C0::C1::C2::C3::C4::C5::C6::C7::C8::C9::D0::D1::D2::.slice (some ⟨e0, 0, none⟩) 0 0::.slice (some ⟨b, off, none⟩) l.length c::.int .i64 (j : Int)::.slice (some ⟨b, off, none⟩) j c::.slice a5 j c5::.int .i64 z::.slice (some ⟨g7, 0, none⟩) 1 1::.slice a8 (j + 1) c8::.slice (some ⟨b, off, none⟩) l.length c::.int .i64 (j : Int)::.slice (some A) (l.length - j) (c - j)::E4::[]).toArray, defers := [] }) (by kernel_rfl) (by kernel_rfl) ?_
      exact s0_4_6_7 w2 (hb.grown hgr hb.size (row_high hown)) e0 a5 c5 g7 a8 c8 (hown2)
  have s0_4 : ∀ W', Below W.heap.size W W' → ∀ e0, ∀ a5 c5, W'.ownsRow W.heap.size 3 1 (.slice a5 j c5) j ((l.take j).flatMap intC) → wpAny Try.prog .any ops25_6s Q 4 (true::true::true::true::true::true::false::false::true::true::true::false::false::[]).toArray { tmps := (.slice (some ⟨b, off, none⟩) l.length c::.int .i64 z::A2::A3::A4::.int .i64 (j : Int)::A6::A7::A8::A9::B0::B1::B2::B3::B4::B5::B6::B7::B8::B9::C0::C1::C2::C3::C4::C5::C6::C7::C8::C9::D0::D1::D2::.slice (some ⟨e0, 0, none⟩) 0 0::.slice (some ⟨b, off, none⟩) l.length c::.int .i64 (j : Int)::.slice (some ⟨b, off, none⟩) j c::.slice a5 j c5::.int .i64 z::D9::E0::.slice (some ⟨b, off, none⟩) l.length c::.int .i64 (j : Int)::.slice (some A) (l.length - j) (c - j)::E4::[]).toArray, defers := [] } W' := by
    delta ops25_6s
    intro W' hb e0 a5 c5 hown
    refine wpAny_ready (rs := [6]) (by kernel_rfl) (by simp) ?_
    refine AllReady.cons rfl (fun K hK => ?_) (AllReady.nil)
    ·
      go_simp
      refine hK _ _ ?_
      clear hK K
      refine wpAny_at (listed' := (true::true::true::true::true::true::true::false::true::true::true::false::false::[]).toArray) (a' := { tmps := (.slice (some ⟨b, off, none⟩) l.length c::.int .i64 z::A2::A3::A4::.int .i64 (j : Int)::A6::A7::A8::A9::B0::B1::B2::B3::B4::B5::B6::B7::B8::B9::C0::C1::C2::C3::C4::C5::C6::C7::C8::C9::D0::D1::D2::.slice (some ⟨e0, 0, none⟩) 0 0::.slice (some ⟨b, off, none⟩) l.length c::.int .i64 (j : Int)::.slice (some ⟨b, off, none⟩) j c::.slice a5 j c5::.int .i64 z::.slice (some ⟨W'.heap.size, 0, none⟩) 1 1::E0::.slice (some ⟨b, off, none⟩) l.length c::.int .i64 (j : Int)::.slice (some A) (l.length - j) (c - j)::E4::[]).toArray, defers := [] }) (by kernel_rfl) (by kernel_rfl) ?_
      exact s0_4_6 _ (hb.alloc hb.size _) e0 a5 c5 _ (row_next hown (below_al W' (.cells #[.int .i64 z] 3))) (Box.fresh W' 3 #[.int .i64 z]) (row_ne_size hown)
  have s0_6 : ∀ W', Below W.heap.size W W' → ∀ e0, ∀ g7, W'.ownsRow W.heap.size 3 1 (.slice (some ⟨e0, 0, none⟩) 0 0) 0 [] → Box W' g7 3 #[.int .i64 z] → (Value.slice (some ⟨e0, 0, none⟩) 0 0).ownBlock ≠ some g7 → wpAny Try.prog .any ops25_6s Q 4 (true::true::true::true::false::true::true::false::true::true::true::false::false::[]).toArray { tmps := (.slice (some ⟨b, off, none⟩) l.length c::.int .i64 z::A2::A3::A4::.int .i64 (j : Int)::A6::A7::A8::A9::B0::B1::B2::B3::B4::B5::B6::B7::B8::B9::C0::C1::C2::C3::C4::C5::C6::C7::C8::C9::D0::D1::D2::.slice (some ⟨e0, 0, none⟩) 0 0::.slice (some ⟨b, off, none⟩) l.length c::.int .i64 (j : Int)::.slice (some ⟨b, off, none⟩) j c::D7::.int .i64 z::.slice (some ⟨g7, 0, none⟩) 1 1::E0::.slice (some ⟨b, off, none⟩) l.length c::.int .i64 (j : Int)::.slice (some A) (l.length - j) (c - j)::E4::[]).toArray, defers := [] } W' := by
    delta ops25_6s
    intro W' hb e0 g7 hown hS hap
    refine wpAny_ready (rs := [4]) (by kernel_rfl) (by simp) ?_
    refine AllReady.cons rfl (fun K hK => ?_) (AllReady.nil)
    ·
      refine step_append_own_at rfl _ _ 23 rfl W.heap.size 3 i0 (.int .i64 0) 1 8 Try.underlying23 hi hz0 hz1 hz2 rfl (by omega) _ _ _ rfl hown ⟨b, off, none⟩ j c ((l.take j).flatMap intC) rfl (by rw [flat_len intC 1 intC_len, List.length_take, Nat.min_eq_left hj]) (fun q u hq => by rw [Addr.add_lit]; exact (hC.next hb).flat_takeG intC_len (by omega) q u hq) (fun u hu => int_one _ u hu) (by unfold maxLen; omega) (by omega) hb.size ?_
      intro v2 w2 hown2 hgr hloc
      rw [Nat.zero_add, List.nil_append] at hown2
      obtain ⟨a5, c5, rfl⟩ := row_slice hown2
      refine hK _ _ ?_
      clear hK K
      refine wpAny_at (listed' := (true::true::true::true::true::true::true::false::true::true::true::false::false::[]).toArray) (a' := { tmps := (.slice (some ⟨b, off, none⟩) l.length c::.int .i64 z::A2::A3::A4::.int .i64 (j : Int)::A6::A7::A8::A9::B0::B1::B2::B3::B4::B5::B6::B7::B8::B9::C0::C1::C2::C3::C4::C5::C6::C7::C8::C9::D0::D1::D2::.slice (some ⟨e0, 0, none⟩) 0 0::.slice (some ⟨b, off, none⟩) l.length c::.int .i64 (j : Int)::.slice (some ⟨b, off, none⟩) j c::.slice a5 j c5::.int .i64 z::.slice (some ⟨g7, 0, none⟩) 1 1::E0::.slice (some ⟨b, off, none⟩) l.length c::.int .i64 (j : Int)::.slice (some A) (l.length - j) (c - j)::E4::[]).toArray, defers := [] }) (by kernel_rfl) (by kernel_rfl) ?_
      exact s0_4_6 w2 (hb.grown hgr hb.size (row_high hown)) e0 a5 c5 g7 (hown2) (hS.grown hgr (fun h => hap h.symm)) (loc_ne hap hS.lt hloc)
  have s0 : ∀ W', Below W.heap.size W W' → ∀ e0, W'.ownsRow W.heap.size 3 1 (.slice (some ⟨e0, 0, none⟩) 0 0) 0 [] → wpAny Try.prog .any ops25_6s Q 5 (true::true::true::true::false::true::false::false::true::true::true::false::false::[]).toArray { tmps := (.slice (some ⟨b, off, none⟩) l.length c::.int .i64 z::A2::A3::A4::.int .i64 (j : Int)::A6::A7::A8::A9::B0::B1::B2::B3::B4::B5::B6::B7::B8::B9::C0::C1::C2::C3::C4::C5::C6::C7::C8::C9::D0::D1::D2::.slice (some ⟨e0, 0, none⟩) 0 0::.slice (some ⟨b, off, none⟩) l.length c::.int .i64 (j : Int)::.slice (some ⟨b, off, none⟩) j c::D7::.int .i64 z::D9::E0::.slice (some ⟨b, off, none⟩) l.length c::.int .i64 (j : Int)::.slice (some A) (l.length - j) (c - j)::E4::[]).toArray, defers := [] } W' := by
    delta ops25_6s
    intro W' hb e0 hown
    refine wpAny_ready (rs := [4, 6]) (by kernel_rfl) (by simp) ?_
    refine AllReady.cons rfl (fun K hK => ?_) (AllReady.cons rfl (fun K hK => ?_) (AllReady.nil))
    ·
      refine step_append_own_at rfl _ _ 23 rfl W.heap.size 3 i0 (.int .i64 0) 1 8 Try.underlying23 hi hz0 hz1 hz2 rfl (by omega) _ _ _ rfl hown ⟨b, off, none⟩ j c ((l.take j).flatMap intC) rfl (by rw [flat_len intC 1 intC_len, List.length_take, Nat.min_eq_left hj]) (fun q u hq => by rw [Addr.add_lit]; exact (hC.next hb).flat_takeG intC_len (by omega) q u hq) (fun u hu => int_one _ u hu) (by unfold maxLen; omega) (by omega) hb.size ?_
      intro v2 w2 hown2 hgr hloc
      rw [Nat.zero_add, List.nil_append] at hown2
      obtain ⟨a5, c5, rfl⟩ := row_slice hown2
      refine hK _ _ ?_
      clear hK K
      refine wpAny_at (listed' := (true::true::true::true::true::true::false::false::true::true::true::false::false::[]).toArray) (a' := { tmps := (.slice (some ⟨b, off, none⟩) l.length c::.int .i64 z::A2::A3::A4::.int .i64 (j : Int)::A6::A7::A8::A9::B0::B1::B2::B3::B4::B5::B6::B7::B8::B9::C0::C1::C2::C3::C4::C5::C6::C7::C8::C9::D0::D1::D2::.slice (some ⟨e0, 0, none⟩) 0 0::.slice (some ⟨b, off, none⟩) l.length c::.int .i64 (j : Int)::.slice (some ⟨b, off, none⟩) j c::.slice a5 j c5::.int .i64 z::D9::E0::.slice (some ⟨b, off, none⟩) l.length c::.int .i64 (j : Int)::.slice (some A) (l.length - j) (c - j)::E4::[]).toArray, defers := [] }) (by kernel_rfl) (by kernel_rfl) ?_
      exact s0_4 w2 (hb.grown hgr hb.size (row_high hown)) e0 a5 c5 (hown2)
    ·
      go_simp
      refine hK _ _ ?_
      clear hK K
      refine wpAny_at (listed' := (true::true::true::true::false::true::true::false::true::true::true::false::false::[]).toArray) (a' := { tmps := (.slice (some ⟨b, off, none⟩) l.length c::.int .i64 z::A2::A3::A4::.int .i64 (j : Int)::A6::A7::A8::A9::B0::B1::B2::B3::B4::B5::B6::B7::B8::B9::C0::C1::C2::C3::C4::C5::C6::C7::C8::C9::D0::D1::D2::.slice (some ⟨e0, 0, none⟩) 0 0::.slice (some ⟨b, off, none⟩) l.length c::.int .i64 (j : Int)::.slice (some ⟨b, off, none⟩) j c::D7::.int .i64 z::.slice (some ⟨W'.heap.size, 0, none⟩) 1 1::E0::.slice (some ⟨b, off, none⟩) l.length c::.int .i64 (j : Int)::.slice (some A) (l.length - j) (c - j)::E4::[]).toArray, defers := [] }) (by kernel_rfl) (by kernel_rfl) ?_
      exact s0_6 _ (hb.alloc hb.size _) e0 _ (row_next hown (below_al W' (.cells #[.int .i64 z] 3))) (Box.fresh W' 3 #[.int .i64 z]) (row_ne_size hown)
  have s6 : ∀ W', Below W.heap.size W W' → ∀ g7, Box W' g7 3 #[.int .i64 z] → wpAny Try.prog .any ops25_6s Q 5 (false::true::true::true::false::true::true::false::true::true::true::false::false::[]).toArray { tmps := (.slice (some ⟨b, off, none⟩) l.length c::.int .i64 z::A2::A3::A4::.int .i64 (j : Int)::A6::A7::A8::A9::B0::B1::B2::B3::B4::B5::B6::B7::B8::B9::C0::C1::C2::C3::C4::C5::C6::C7::C8::C9::D0::D1::D2::D3::.slice (some ⟨b, off, none⟩) l.length c::.int .i64 (j : Int)::.slice (some ⟨b, off, none⟩) j c::D7::.int .i64 z::.slice (some ⟨g7, 0, none⟩) 1 1::E0::.slice (some ⟨b, off, none⟩) l.length c::.int .i64 (j : Int)::.slice (some A) (l.length - j) (c - j)::E4::[]).toArray, defers := [] } W' := by
    delta ops25_6s
    intro W' hb g7 hS
    refine wpAny_ready (rs := [0]) (by kernel_rfl) (by simp) ?_
    refine AllReady.cons rfl (fun K hK => ?_) (AllReady.nil)
    ·
      go_simp
      refine hK _ _ ?_
      clear hK K
      refine wpAny_at (listed' := (true::true::true::true::false::true::true::false::true::true::true::false::false::[]).toArray) (a' := { tmps := (.slice (some ⟨b, off, none⟩) l.length c::.int .i64 z::A2::A3::A4::.int .i64 (j : Int)::A6::A7::A8::A9::B0::B1::B2::B3::B4::B5::B6::B7::B8::B9::C0::C1::C2::C3::C4::C5::C6::C7::C8::C9::D0::D1::D2::.slice (some ⟨W'.heap.size, 0, none⟩) 0 0::.slice (some ⟨b, off, none⟩) l.length c::.int .i64 (j : Int)::.slice (some ⟨b, off, none⟩) j c::D7::.int .i64 z::.slice (some ⟨g7, 0, none⟩) 1 1::E0::.slice (some ⟨b, off, none⟩) l.length c::.int .i64 (j : Int)::.slice (some A) (l.length - j) (c - j)::E4::[]).toArray, defers := [] }) (by kernel_rfl) (by kernel_rfl) ?_
      exact s0_6 _ (hb.alloc hb.size _) _ g7 (⟨rfl, .inr ⟨_, 0, #[], rfl, hb.size, Box.fresh W' 3 #[], Nat.le_refl _, by decide, rfl, rfl⟩⟩) (hS.next (below_al W' (.cells #[] 3))) (by intro hc; have := hS.lt; simp [Value.ownBlock] at hc; omega)
  have s : ∀ W', Below W.heap.size W W' → wpAny Try.prog .any ops25_6s Q 6 (false::true::true::true::false::true::false::false::true::true::true::false::false::[]).toArray { tmps := (.slice (some ⟨b, off, none⟩) l.length c::.int .i64 z::A2::A3::A4::.int .i64 (j : Int)::A6::A7::A8::A9::B0::B1::B2::B3::B4::B5::B6::B7::B8::B9::C0::C1::C2::C3::C4::C5::C6::C7::C8::C9::D0::D1::D2::D3::.slice (some ⟨b, off, none⟩) l.length c::.int .i64 (j : Int)::.slice (some ⟨b, off, none⟩) j c::D7::.int .i64 z::D9::E0::.slice (some ⟨b, off, none⟩) l.length c::.int .i64 (j : Int)::.slice (some A) (l.length - j) (c - j)::E4::[]).toArray, defers := [] } W' := by
    delta ops25_6s
    intro W' hb 
    refine wpAny_ready (rs := [0, 6]) (by kernel_rfl) (by simp) ?_
    refine AllReady.cons rfl (fun K hK => ?_) (AllReady.cons rfl (fun K hK => ?_) (AllReady.nil))
    ·
      go_simp
      refine hK _ _ ?_
      clear hK K
      refine wpAny_at (listed' := (true::true::true::true::false::true::false::false::true::true::true::false::false::[]).toArray) (a' := { tmps := (.slice (some ⟨b, off, none⟩) l.length c::.int .i64 z::A2::A3::A4::.int .i64 (j : Int)::A6::A7::A8::A9::B0::B1::B2::B3::B4::B5::B6::B7::B8::B9::C0::C1::C2::C3::C4::C5::C6::C7::C8::C9::D0::D1::D2::.slice (some ⟨W'.heap.size, 0, none⟩) 0 0::.slice (some ⟨b, off, none⟩) l.length c::.int .i64 (j : Int)::.slice (some ⟨b, off, none⟩) j c::D7::.int .i64 z::D9::E0::.slice (some ⟨b, off, none⟩) l.length c::.int .i64 (j : Int)::.slice (some A) (l.length - j) (c - j)::E4::[]).toArray, defers := [] }) (by kernel_rfl) (by kernel_rfl) ?_
      exact s0 _ (hb.alloc hb.size _) _ (⟨rfl, .inr ⟨_, 0, #[], rfl, hb.size, Box.fresh W' 3 #[], Nat.le_refl _, by decide, rfl, rfl⟩⟩)
    ·
      go_simp
      refine hK _ _ ?_
      clear hK K
      refine wpAny_at (listed' := (false::true::true::true::false::true::true::false::true::true::true::false::false::[]).toArray) (a' := { tmps := (.slice (some ⟨b, off, none⟩) l.length c::.int .i64 z::A2::A3::A4::.int .i64 (j : Int)::A6::A7::A8::A9::B0::B1::B2::B3::B4::B5::B6::B7::B8::B9::C0::C1::C2::C3::C4::C5::C6::C7::C8::C9::D0::D1::D2::D3::.slice (some ⟨b, off, none⟩) l.length c::.int .i64 (j : Int)::.slice (some ⟨b, off, none⟩) j c::D7::.int .i64 z::.slice (some ⟨W'.heap.size, 0, none⟩) 1 1::E0::.slice (some ⟨b, off, none⟩) l.length c::.int .i64 (j : Int)::.slice (some A) (l.length - j) (c - j)::E4::[]).toArray, defers := [] }) (by kernel_rfl) (by kernel_rfl) ?_
      exact s6 _ (hb.alloc hb.size _) _ (Box.fresh W' 3 #[.int .i64 z])
  refine wp_region_any (by kernel_rfl) ?_
  change wpAny _ _ _ _ _ _ _ (World.drew _)
  rw [← hWd]
  refine wpAny_take (i := 1) (v := .slice (some ⟨b, off, none⟩) l.length c) rfl (by kernel_rfl) (by kernel_rfl) (by kernel_rfl) (fun _ _ _ h => HQp.out _ _ _ _ h) (Or.inl ⟨by rfl, by intro w; go_simp⟩) ?_
  refine wpAny_take (i := 2) (v := .int .i64 (j : Int)) rfl (by kernel_rfl) (by kernel_rfl) (by kernel_rfl) (fun _ _ _ h => HQp.out _ _ _ _ h) (Or.inl ⟨by rfl, by intro w; go_simp⟩) ?_
  refine wpAny_take (i := 3) (v := .slice (some ⟨b, off, none⟩) j c) rfl (by kernel_rfl) (by kernel_rfl) (by kernel_rfl) (fun _ _ _ h => HQp.out _ _ _ _ h) (Or.inl ⟨by rfl, by intro w; go_simp⟩) ?_
  refine wpAny_take (i := 5) (v := .int .i64 z) rfl (by kernel_rfl) (by kernel_rfl) (by kernel_rfl) (fun _ _ _ h => HQp.out _ _ _ _ h) (Or.inl ⟨by rfl, by intro w; go_simp⟩) ?_
  refine wpAny_take (i := 8) (v := .slice (some ⟨b, off, none⟩) l.length c) rfl (by kernel_rfl) (by kernel_rfl) (by kernel_rfl) (fun _ _ _ h => HQp.out _ _ _ _ h) (Or.inl ⟨by rfl, by intro w; go_simp⟩) ?_
  refine wpAny_take (i := 9) (v := .int .i64 (j : Int)) rfl (by kernel_rfl) (by kernel_rfl) (by kernel_rfl) (fun _ _ _ h => HQp.out _ _ _ _ h) (Or.inl ⟨by rfl, by intro w; go_simp⟩) ?_
  refine wpAny_take (i := 10) (v := .slice (some A) (l.length - j) (c - j)) rfl (by kernel_rfl) (by kernel_rfl) (by kernel_rfl) (fun _ _ _ h => HQp.out _ _ _ _ h) (Or.inl ⟨by rfl, by intro w; go_simp⟩) ?_
  refine wpAny_at (listed' := (false::true::true::true::false::true::false::false::true::true::true::false::false::[]).toArray) (a' := { tmps := (.slice (some ⟨b, off, none⟩) l.length c::.int .i64 z::A2::A3::A4::.int .i64 (j : Int)::A6::A7::A8::A9::B0::B1::B2::B3::B4::B5::B6::B7::B8::B9::C0::C1::C2::C3::C4::C5::C6::C7::C8::C9::D0::D1::D2::D3::.slice (some ⟨b, off, none⟩) l.length c::.int .i64 (j : Int)::.slice (some ⟨b, off, none⟩) j c::D7::.int .i64 z::D9::E0::.slice (some ⟨b, off, none⟩) l.length c::.int .i64 (j : Int)::.slice (some A) (l.length - j) (c - j)::E4::[]).toArray, defers := [] }) (by kernel_rfl) (by kernel_rfl) ?_
  exact s W (Below.refl _ W)
end Go.Proofs.Ytoaapngfbidllaa
