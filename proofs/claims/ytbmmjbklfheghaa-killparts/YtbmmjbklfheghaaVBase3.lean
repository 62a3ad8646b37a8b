/- What the rows' readings give the walks: a venue that came in. -/
import Derived.Test.YtbmmjbklfheghaaVBase
import Derived.ChangeOld
namespace Go.Proofs.Ytbmmjbklfheghaa.Ven
set_option linter.unusedVariables false
set_option maxRecDepth 100000
open Go.ChangeShapes Go.WideShapes Go.ChangeAt Go.RowKit

theorem cells39 : Try.prog.cellsOf 41 = 3 := by kernel_rfl
theorem cells26 : Try.prog.cellsOf 26 = 5 := by kernel_rfl
theorem cells22 : Try.prog.cellsOf 22 = 1 := by kernel_rfl
theorem cells23 : Try.prog.cellsOf 23 = 1 := by kernel_rfl
theorem cells24 : Try.prog.cellsOf 24 = 1 := by kernel_rfl
theorem spot_none {w : World} {a : Addr} {v : Value} (h : w.cell? a = some v) : a = ⟨a.block, a.off, none⟩ := by
  have hs : a.spot = none := by
    unfold World.cell? at h
    cases hsp : a.spot with
    | none => rfl
    | some q => rw [hsp] at h; simp at h; split at h <;> simp at h
  cases a; simp_all
/-- A list of what stands at each of the first places. -/
theorem list_of {α : Type} {p : Nat → α → Prop} : ∀ n : Nat, (∀ i, i < n → ∃ s, p i s) → ∃ l : List α, l.length = n ∧ ∀ i (hi : i < l.length), p i l[i]
  | 0, _ => ⟨[], rfl, fun i hi => by simp at hi⟩
  | n + 1, h => by
    obtain ⟨l, hl, hp⟩ := list_of n fun i hi => h i (by omega)
    obtain ⟨s, hs⟩ := h n (by omega)
    refine ⟨l ++ [s], by simp [hl], fun i hi => ?_⟩
    rcases Nat.lt_or_ge i l.length with h' | h'
    · rw [List.getElem_append_left h']; exact hp i h'
    · have e : i = l.length := by simp at hi; omega
      subst e; rw [List.getElem_concat_length rfl, hl]; exact hs
/-- A slice that came in, opened, where what opens one element is known. -/
theorem sl_of {H : Type} {enc : TypeId × Value → H} {W : World} {base : Nat} {sp : Nat → Bool} {held : Bool} {fuel : Nat} {cs : List Value} {x : DataW H × List MemPlace} {α : Type} {k : Nat} {en : α → List Value} (hk : ∀ s, (en s).length = k) (h0 : 0 < k) {t e : TypeId}
    (ht : Try.prog.underlying t = some (.slice e)) (hc : Try.prog.cellsOf e = k) (hel : ∀ fuel cs x, DataW.trod enc Try.prog W base sp held fuel e cs = some x → ∃ s : α, cs = en s)
    (h : DataW.trod enc Try.prog W base sp held fuel t cs = some x) : ∃ a n c l, cs = [.slice a n c] ∧ Sl k en W (.slice a n c) l := by
  rcases DataW.trod_slice ht h with ⟨rfl, _⟩ | ⟨a, len, cap, elems, rest, n, _, rfl, _, hb, hl, hm, hlen, hev, _, _⟩
  · exact ⟨none, 0, 0, [], rfl, .inl ⟨⟨_, _, rfl⟩, rfl⟩⟩
  · rw [hc] at hev
    have each : ∀ i, i < len → ∃ s : α, W.cells? base (a.add (i * k)) k = some (en s) := by
      intro i hi
      have h1 := hev i hi
      rw [List.getElem?_eq_getElem (show i < elems.length by omega), Option.bind_eq_some_iff] at h1
      obtain ⟨cs', hcs, hy⟩ := h1
      obtain ⟨s, rfl⟩ := hel _ _ _ hy
      exact ⟨s, hcs⟩
    obtain ⟨l, hll, hp⟩ := list_of len each
    refine ⟨some a, len, cap, l, rfl, ?_⟩
    rcases Nat.eq_zero_or_pos len with hz | hz
    · exact .inl ⟨⟨_, _, by rw [hz]⟩, List.length_eq_zero_iff.1 (by omega)⟩
    · right
      obtain ⟨_, hl0, hc0⟩ := World.cells?_some (hp 0 (by omega))
      have hfirst := hc0 0 h0
      rw [List.getElem?_eq_getElem (show 0 < (en l[0]).length by rw [hk]; exact h0)] at hfirst
      have e0 : (a.add (0 * k)).add 0 = a := by simp [Addr.add]
      rw [e0] at hfirst
      have ha := spot_none hfirst
      have hblk := World.block_lt_of_cell? _ _ hfirst
      refine ⟨a.block, a.off, cap, by rw [hll, ← ha], by omega, hm, hblk, fun i hi j u hu => ?_⟩
      obtain ⟨_, _, hci⟩ := World.cells?_some (hp i hi)
      have hj : j < k := by rw [← hk l[i]]; exact (List.getElem?_eq_some_iff.1 hu).1
      have := hci j hj
      rw [hu, ha, Addr.add_lit, Addr.add_lit] at this
      exact this
theorem fields39 : ∃ f0 f1 f2 : Field, Try.prog.underlying 41 = some (.struct #[f0, f1, f2]) ∧ (f0.type = 3 ∧ f0.offset = 0) ∧ (f1.type = 3 ∧ f1.offset = 1) ∧ (f2.type = 3 ∧ f2.offset = 2) :=
  ⟨_, _, _, Try.underlying41, ⟨rfl, rfl⟩, ⟨rfl, rfl⟩, ⟨rfl, rfl⟩⟩
/-- A pole's cells, read. -/
theorem pole_cells {H : Type} {enc : TypeId × Value → H} {W : World} {base : Nat} {sp : Nat → Bool} {held : Bool} {fuel : Nat} {cs : List Value} {x : DataW H × List MemPlace}
    (h : DataW.trod enc Try.prog W base sp held fuel 41 cs = some x) : ∃ s : Pole, cs = poleC s := by
  obtain ⟨f0, f1, f2, hu, ⟨t0, o0⟩, ⟨t1, o1⟩, ⟨t2, o2⟩⟩ := fields39
  obtain ⟨xs, n, rfl, rfl, hl, hx, hf⟩ := DataW.trod_struct hu h
  rw [cells39] at hl
  have hx' : xs.length = 3 := hx
  have g : ∀ (i : Nat) (f : Field), #[f0, f1, f2][i]? = some f → f.type = 3 → i < 3 → ∃ z, (cs.drop f.offset).take 1 = [.int .i64 z] := by
    intro i f hi ht hi4
    have h1 := hf i f hi
    rw [ht, cells3, List.getElem?_eq_getElem (by omega : i < xs.length)] at h1
    obtain ⟨z, hz, _⟩ := DataW.trod_int Try.underlying3 h1
    exact ⟨z, hz⟩
  obtain ⟨z0, h0⟩ := g 0 f0 rfl t0 (by omega)
  obtain ⟨z1, h1⟩ := g 1 f1 rfl t1 (by omega)
  obtain ⟨z2, h2⟩ := g 2 f2 rfl t2 (by omega)
  rw [o0] at h0; rw [o1] at h1; rw [o2] at h2
  refine ⟨⟨z0, z1, z2⟩, List.ext_getElem? fun i => ?_⟩
  match i with
  | 0 => exact one_of h0
  | 1 => exact one_of h1
  | 2 => exact one_of h2
  | i + 3 => rw [List.getElem?_eq_none (by omega), List.getElem?_eq_none (by simp [poleC])]
theorem int_cells {H : Type} {enc : TypeId × Value → H} {W : World} {base : Nat} {sp : Nat → Bool} {held : Bool} {fuel : Nat} {cs : List Value} {x : DataW H × List MemPlace}
    (h : DataW.trod enc Try.prog W base sp held fuel 3 cs = some x) : ∃ z : Int, cs = intC z := by
  obtain ⟨z, hz, _⟩ := DataW.trod_int Try.underlying3 h
  exact ⟨z, hz⟩
theorem fields26 : ∃ f0 f1 f2 f3 f4 : Field, Try.prog.underlying 26 = some (.struct #[f0, f1, f2, f3, f4]) ∧ (f0.type = 22 ∧ f0.offset = 0) ∧ (f1.type = 3 ∧ f1.offset = 1) ∧ (f2.type = 3 ∧ f2.offset = 2) ∧ (f3.type = 23 ∧ f3.offset = 3) ∧ (f4.type = 24 ∧ f4.offset = 4) :=
  ⟨_, _, _, _, _, Try.underlying26, ⟨rfl, rfl⟩, ⟨rfl, rfl⟩, ⟨rfl, rfl⟩, ⟨rfl, rfl⟩, ⟨rfl, rfl⟩⟩
/-- A venue that came in. -/
theorem ven_of {H : Type} {enc : TypeId × Value → H} {W : World} {base : Nat} {sp : Nat → Bool} {held : Bool} {cs : Array Value} {d : DataW H} {ps : List MemPlace}
    (h : DataW.Trod enc Try.prog W base sp held 26 (.agg cs) d ps) : ∃ a1 n1 c1 a2 n2 c2 a3 n3 c3 V, Value.agg cs = venV a1 n1 c1 V.gap V.radius a2 n2 c2 a3 n3 c3 ∧ VenAt W a1 n1 c1 a2 n2 c2 a3 n3 c3 V := by
  obtain ⟨fuel, hf⟩ := h
  obtain ⟨f0, f1, f2, f3, f4, hu, ⟨t0, o0⟩, ⟨t1, o1⟩, ⟨t2, o2⟩, ⟨t3, o3⟩, ⟨t4, o4⟩⟩ := fields26
  obtain ⟨xs, n, rfl, hxx, hl, hx, hf⟩ := DataW.trod_struct hu hf
  rw [cells26] at hl
  have hx' : xs.length = 5 := hx
  have e0 := hf 0 f0 rfl
  have e1 := hf 1 f1 rfl
  have e2 := hf 2 f2 rfl
  have e3 := hf 3 f3 rfl
  have e4 := hf 4 f4 rfl
  rw [t0, o0, cells22, List.getElem?_eq_getElem (by omega : 0 < xs.length)] at e0
  rw [t1, o1, cells3, List.getElem?_eq_getElem (by omega : 1 < xs.length)] at e1
  rw [t2, o2, cells3, List.getElem?_eq_getElem (by omega : 2 < xs.length)] at e2
  rw [t3, o3, cells23, List.getElem?_eq_getElem (by omega : 3 < xs.length)] at e3
  rw [t4, o4, cells24, List.getElem?_eq_getElem (by omega : 4 < xs.length)] at e4
  obtain ⟨a1, n1, c1, l1, g0, s0⟩ := sl_of seatC_len (by omega) Try.underlying22 cells34 (fun _ _ _ h => seat_cells h) e0
  obtain ⟨gap, g1⟩ := int_cells e1
  obtain ⟨rad, g2⟩ := int_cells e2
  obtain ⟨a2, n2, c2, l2, g3, s3⟩ := sl_of intC_len (by omega) Try.underlying23 cells3 (fun _ _ _ h => int_cells h) e3
  obtain ⟨a3, n3, c3, l3, g4, s4⟩ := sl_of poleC_len (by omega) Try.underlying24 cells39 (fun _ _ _ h => pole_cells h) e4
  refine ⟨a1, n1, c1, a2, n2, c2, a3, n3, c3, ⟨l1, gap, rad, l2, l3⟩, ?_, ⟨s0, s3, s4⟩⟩
  have : (Value.agg cs).cells.toList = [.slice a1 n1 c1, .int .i64 gap, .int .i64 rad, .slice a2 n2 c2, .slice a3 n3 c3] := by
    refine List.ext_getElem? fun i => ?_
    match i with
    | 0 => exact one_of g0
    | 1 => exact one_of g1
    | 2 => exact one_of g2
    | 3 => exact one_of g3
    | 4 => exact one_of g4
    | i + 5 => rw [List.getElem?_eq_none (by omega), List.getElem?_eq_none (by simp)]
  have h2 : cs.toList = [.slice a1 n1 c1, .int .i64 gap, .int .i64 rad, .slice a2 n2 c2, .slice a3 n3 c3] := this
  have h3 : cs = #[.slice a1 n1 c1, .int .i64 gap, .int .i64 rad, .slice a2 n2 c2, .slice a3 n3 c3] := Array.toList_inj.1 h2
  rw [h3]
end Go.Proofs.Ytbmmjbklfheghaa.Ven
