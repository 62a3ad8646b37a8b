/- A venue's box; rows that grow beside it. -/
import Derived.Test.YtbmmjbklfheghaaVMarksP
import Derived.Test.YtbmmjbklfheghaaVWrong
import Derived.Laws.AppendOwn
import Derived.OwnWalk
import Derived.Lib.SmallJoins
import Derived.Lib.OwnKind
import Derived.RegionTactic
namespace Go.Proofs.Ytbmmjbklfheghaa.Ven
set_option linter.unusedVariables false
set_option maxRecDepth 100000
open Go.RowKit Go.Shelf

/-- The block 'g' holds these cells, of type 'e', none of them frozen. -/
def Box (w : World) (g : Nat) (e : TypeId) (cs : Array Value) : Prop := w.heap[g]? = some (.cells cs e (0, 0))
theorem Box.lt {w : World} {g : Nat} {e : TypeId} {cs : Array Value} (h : Box w g e cs) : g < w.heap.size := (Array.getElem?_eq_some_iff.1 h).1
theorem Box.cell {w : World} {g : Nat} {e : TypeId} {cs : Array Value} (h : Box w g e cs) (i : Nat) (v : Value) (hv : cs[i]? = some v) : w.cell? ⟨g, i, none⟩ = some v := by
  unfold Box at h
  simp [World.cell?, h, hv]
theorem Box.frozen {w : World} {g : Nat} {e : TypeId} {cs : Array Value} (h : Box w g e cs) (i : Nat) : w.frozen? ⟨g, i, none⟩ = false := by
  unfold Box at h
  simp [World.frozen?, h]
theorem Box.same {w w' : World} {g : Nat} {e : TypeId} {cs : Array Value} (h : Box w g e cs) (hh : w'.heap[g]? = w.heap[g]?) : Box w' g e cs := by
  unfold Box; rw [hh]; exact h
theorem Box.next {w w' : World} {g : Nat} {e : TypeId} {cs : Array Value} (h : Box w g e cs) (hb : Below w.heap.size w w') : Box w' g e cs := h.same (hb.block g h.lt)
theorem Box.grown {w w' : World} {g : Nat} {e : TypeId} {cs : Array Value} {row : Option Nat} (h : Box w g e cs) (hg : w.grownBy w' row) (hne : some g ≠ row) : Box w' g e cs := h.same (hg.block g h.lt hne)
theorem Box.fresh (w : World) (e : TypeId) (cs : Array Value) : Box (w.alloc (.cells cs e (0, 0))) w.heap.size e cs := by
  show (w.heap.push (.cells cs e (0, 0)))[w.heap.size]? = _
  simp
theorem Box.set {w : World} {g : Nat} {e : TypeId} {cs : Array Value} (h : Box w g e cs) (i : Nat) (v : Value) : Box (w.setCell ⟨g, i, none⟩ v) g e (cs.setIfInBounds i v) := by
  unfold Box at *
  simp [World.setCell, Array.getElem?_modify, h]
theorem Box.other {w : World} {g : Nat} {e : TypeId} {cs : Array Value} (h : Box w g e cs) (b i : Nat) (hne : g ≠ b) (v : Value) : Box (w.setCell ⟨b, i, none⟩ v) g e cs := h.same (Below.heap_setCell w _ v g hne)
/-- A row that grows lies in no block of another type. -/
theorem Box.not_row {w : World} {g : Nat} {e e' : TypeId} {cs : Array Value} (h : Box w g e cs) (hne : e ≠ e') {base size n : Nat} {v : Value} {xs : List Value} (hr : w.ownsRow base e' size v n xs) : some g ≠ v.ownBlock := by
  intro hc
  rcases hr.2 with ⟨hv, _⟩ | ⟨g', cap, cur, hv, _, hb, _⟩
  · subst hv; cases hc
  · subst hv
    simp [Value.ownBlock] at hc
    subst hc
    unfold Box at h
    rw [h] at hb
    exact hne (by injection hb with hb; injection hb)
theorem row_same {w w' : World} {base : Nat} {e : TypeId} {size : Nat} {v : Value} {n : Nat} {xs : List Value} (h : w.ownsRow base e size v n xs) (hb : ∀ g, g < w.heap.size → v.ownBlock = some g → w'.heap[g]? = w.heap[g]?) : w'.ownsRow base e size v n xs := by
  refine ⟨h.1, ?_⟩
  rcases h.2 with hn | ⟨g, cap, cur, hv, hg, hc, hr⟩
  · exact Or.inl hn
  · have hlt : g < w.heap.size := (Array.getElem?_eq_some_iff.1 hc).1
    exact Or.inr ⟨g, cap, cur, hv, hg, by rw [hb g hlt (by rw [hv]; rfl)]; exact hc, hr⟩
theorem row_next {w w' : World} {base : Nat} {e : TypeId} {size : Nat} {v : Value} {n : Nat} {xs : List Value} (h : w.ownsRow base e size v n xs) (hb : Below w.heap.size w w') : w'.ownsRow base e size v n xs := row_same h fun g hg _ => hb.block g hg
/-- Two rows of unlike types lie apart. -/
theorem rows_apart {w : World} {base base' : Nat} {e e' : TypeId} {size size' : Nat} {v v' : Value} {n n' : Nat} {xs xs' : List Value} (h : w.ownsRow base e size v n xs) (h' : w.ownsRow base' e' size' v' n' xs') (hne : e ≠ e') (g : Nat) (hg : v.ownBlock = some g) : some g ≠ v'.ownBlock := by
  rcases h.2 with ⟨hv, _⟩ | ⟨g1, cap, cur, hv, _, hc, _⟩
  · subst hv; cases hg
  · subst hv
    simp [Value.ownBlock] at hg
    subst hg
    exact Box.not_row (e := e) (cs := cur) hc hne h'
theorem row_grown {w w' : World} {base base' : Nat} {e e' : TypeId} {size size' : Nat} {v v' : Value} {n n' : Nat} {xs xs' : List Value} (h : w.ownsRow base e size v n xs) (h' : w.ownsRow base' e' size' v' n' xs') (hne : e ≠ e') (hg : w.grownBy w' v'.ownBlock) : w'.ownsRow base e size v n xs :=
  row_same h fun g hlt hv => hg.block g hlt (rows_apart h h' hne g hv)
theorem row_setCell {w : World} {base : Nat} {e e' : TypeId} {size : Nat} {v : Value} {n : Nat} {xs : List Value} (h : w.ownsRow base e size v n xs) {g : Nat} {cs : Array Value} (hB : Box w g e' cs) (hne : e' ≠ e) (i : Nat) (u : Value) : (w.setCell ⟨g, i, none⟩ u).ownsRow base e size v n xs :=
  row_same h fun g' _ hv => Below.heap_setCell w _ u g' (fun hc => (hB.not_row hne h) (by rw [hv, hc]))
theorem row_slice {w : World} {base : Nat} {e : TypeId} {size : Nat} {v : Value} {n : Nat} {xs : List Value} (h : w.ownsRow base e size v n xs) : ∃ a c, v = .slice a n c := by
  rcases h.2 with ⟨hv, hn⟩ | ⟨g, cap, cur, hv, _⟩
  · exact ⟨none, 0, by rw [hv, hn]⟩
  · exact ⟨_, cap, hv⟩
theorem flat_len {α : Type} (enc : α → List Value) (k : Nat) (hk : ∀ x, (enc x).length = k) (ts : List α) : (ts.flatMap enc).length = ts.length * k := by
  induction ts with
  | nil => simp
  | cons t r ih => rw [List.flatMap_cons, List.length_append, ih, hk, List.length_cons, Nat.add_mul]; omega
theorem flat_at {α : Type} (enc : α → List Value) (k : Nat) (hk : ∀ x, (enc x).length = k) : ∀ (ts : List α) (i : Nat) (hi : i < ts.length) (j : Nat), j < k → (ts.flatMap enc)[i * k + j]? = (enc ts[i])[j]?
  | [], i, hi, _, _ => by simp at hi
  | t :: r, 0, _, j, hj => by rw [List.flatMap_cons, List.getElem?_append_left (by rw [hk]; omega)]; simp
  | t :: r, i + 1, hi, j, hj => by
    rw [List.flatMap_cons, List.getElem?_append_right (by rw [hk, Nat.add_mul]; omega)]
    have e : (i + 1) * k + j - (enc t).length = i * k + j := by rw [hk, Nat.add_mul]; omega
    rw [e, flat_at enc k hk r i (by simpa using hi) j hj]; rfl
/-- A row that a call made is a slice of these. -/
theorem row_sl {α : Type} {enc : α → List Value} {k : Nat} (hk : ∀ x, (enc x).length = k) {w : World} {base : Nat} {e : TypeId} {v : Value} {l : List α} (h : w.ownsRow base e k v l.length (l.flatMap enc)) : Sl k enc w v l := by
  have h2 := h
  rcases h.2 with ⟨hv, hn⟩ | ⟨g, cap, cur, hv, hb, hc, hn, hm, _, _⟩
  · exact Or.inl ⟨⟨_, _, hv⟩, List.length_eq_zero_iff.1 hn⟩
  · subst hv
    have hlt : g < w.heap.size := (Array.getElem?_eq_some_iff.1 hc).1
    refine Or.inr ⟨g, 0, cap, rfl, hn, hm, hlt, fun i hi j u hu => ?_⟩
    have hj : j < k := by rw [← hk l[i]]; exact (List.getElem?_eq_some_iff.1 hu).1
    have := World.ownsRow.cells h2 rfl (i * k + j) u (by rw [flat_at enc k hk l i hi j hj]; exact hu)
    rw [Addr.add_lit] at this
    simpa [Nat.add_assoc] using this
/-- The cells of a slice, one behind the other. -/
theorem Cells.flat {α : Type} {enc : α → List Value} {k : Nat} (hk : ∀ x, (enc x).length = k) (h0 : 0 < k) {w : World} {b off : Nat} {l : List α} (h : Cells k enc w b off l) (j : Nat) (u : Value) (hu : (l.flatMap enc)[j]? = some u) : w.cell? ⟨b, off + j, none⟩ = some u := by
  have hj : j < l.length * k := by rw [← flat_len enc k hk]; exact (List.getElem?_eq_some_iff.1 hu).1
  have hi : j / k < l.length := Nat.div_lt_of_lt_mul (by rw [Nat.mul_comm]; exact hj)
  have e : j / k * k + j % k = j := by rw [Nat.mul_comm]; exact Nat.div_add_mod j k
  have := h.2 (j / k) hi (j % k) u (by rw [← flat_at enc k hk l _ hi _ (Nat.mod_lt _ h0), e]; exact hu)
  rw [Nat.add_assoc, e] at this
  exact this
theorem seatC_len (s : Seat) : (seatC s).length = 4 := rfl
theorem poleC_len (s : Pole) : (poleC s).length = 3 := rfl
theorem intC_len (s : Int) : (intC s).length = 1 := rfl

theorem info_of {t : TypeId} {z : Value} {s b : Nat} (h : (Try.prog.info? t).map (fun i => (i.zero, i.size, i.bytes)) = some (some z, s, b)) : ∃ i : TypeInfo, Try.prog.info? t = some i ∧ i.zero = some z ∧ i.size = s ∧ i.bytes = b := by
  cases hi : Try.prog.info? t with
  | none => rw [hi] at h; cases h
  | some i =>
    rw [hi] at h
    have h' := Option.some.inj h
    exact ⟨i, rfl, congrArg (·.1) h', congrArg (·.2.1) h', congrArg (·.2.2) h'⟩
theorem info34 : ∃ i : TypeInfo, Try.prog.info? 44 = some i ∧ i.zero = some (seatV 0 0 0 0) ∧ i.size = 4 ∧ i.bytes = 32 := info_of (by kernel_rfl)
theorem info39 : ∃ i : TypeInfo, Try.prog.info? 41 = some i ∧ i.zero = some (poleV 0 0 0) ∧ i.size = 3 ∧ i.bytes = 24 := info_of (by kernel_rfl)
theorem info3 : ∃ i : TypeInfo, Try.prog.info? 3 = some i ∧ i.zero = some (.int .i64 0) ∧ i.size = 1 ∧ i.bytes = 8 := info_of (by kernel_rfl)

/-- append onto a row of its own, as one step of a region that draws. -/
theorem step_append_own {P : Program} {ops : Array Oper} {o : Oper} {a : Act} {w : World} {K : Act → World → Prop} {Q : Exit → Act → World → Prop} {E : Prop}
    (hg : o.guard = none) (s x : Operand) (t : TypeId) (ho : o.op = .call { callee := .builtin .append, args := #[s, x], argTypes := #[t, t] })
    (base : Nat) (e : TypeId) (i : TypeInfo) (z : Value) (size bytes : Nat) (ht : P.underlying t = some (.slice e)) (hi : P.info? e = some i) (hz : i.zero = some z)
    (hsize : i.size = size) (hby : i.bytes = bytes) (hzs : z.cells.size = size) (hsz : 0 < size)
    (v : Value) (n : Nat) (xs : List Value) (hs : a.eval s = v) (hown : w.ownsRow base e size v n xs)
    (ad : Addr) (m c : Nat) (news : List Value) (hx : a.eval x = .slice (some ad) m c) (hl : news.length = m * size) (hnews : ∀ j u, news[j]? = some u → w.cell? (ad.add j) = some u) (h1 : ∀ u ∈ news, u.oneCell' = true)
    (h63 : n + m ≤ maxLen) (hbytes : (n + m) * bytes ≤ 140737488355328) (hbase : base ≤ w.heap.size)
    (h : ∀ v' w', w'.ownsRow base e size v' (n + m) (xs ++ news) → w.grownBy w' v.ownBlock → K (a.put o.dst v') w') :
    if Region.wanted o (yielded ops a.tmps) = true then Oper.wp P o a w K Q else E := by
  have hw : Region.wanted o (yielded ops a.tmps) = true := by simp [Region.wanted, hg]
  rw [if_pos hw]
  exact wp_append_own w s x t ho base e i z size bytes ht hi hz hsize hby hzs hsz v n xs hs hown ad m c news hx hl hnews h1 h63 hbytes hbase (fun v' w' h2 h3 _ => h v' w' h2 h3)
theorem append_nil_nil (a : Option Addr) (c : Nat) (w : World) : (Builtin.append_ #[24, 24] 24 #[.slice none 0 0, .slice a 0 c]).run Try.prog w = .ok (.slice none 0 0) w := by cases a <;> rfl
/-- A copy of poles, as one step of a region that draws. -/
theorem step_copy {ops : Array Oper} {o : Oper} {a : Act} {w : World} {K : Act → World → Prop} {Q : Exit → Act → World → Prop} {E : Prop}
    (hg : o.guard = none) (hty : o.type = 24) (x : Operand) (ho : o.op = .call { callee := .builtin .append, args := #[.const (.slice none 0 0), x], argTypes := #[24, 24] })
    (base : Nat) (a3 : Option Addr) (n3 c3 : Nat) (l : List Pole) (hx : a.eval x = .slice a3 n3 c3) (hS : Sl 3 poleC w (.slice a3 n3 c3) l) (h200 : l.length ≤ 200) (hbase : base ≤ w.heap.size)
    (h : ∀ v' w', w'.ownsRow base 41 3 v' l.length (l.flatMap poleC) → w.grownBy w' none → K (a.put o.dst v') w') :
    if Region.wanted o (yielded ops a.tmps) = true then Oper.wp Try.prog o a w K Q else E := by
  obtain ⟨i0, hi, hz0, hz1, hz2⟩ := info39
  rcases hS with ⟨⟨a', c', he⟩, rfl⟩ | ⟨b, off, cap, he, h1, h2, hC⟩
  · cases he
    have hw : Region.wanted o (yielded ops a.tmps) = true := by simp [Region.wanted, hg]
    rw [if_pos hw]
    have hcn : a.eval (.const (.slice none 0 0)) = .slice none 0 0 := rfl
    unfold Oper.wp execOp
    simp only [ho, resolve, invoke, builtin, Sem.run_bind, Sem.run_pure, Result.andThen_ok, List.map_toArray, List.map_cons, List.map_nil, hx, hty, hcn, append_nil_nil]
    exact h _ _ (World.ownsRow_nil _ _ _ _) ⟨rfl, rfl, rfl, Nat.le_refl _, fun _ _ _ => rfl⟩
  · cases he
    refine step_append_own hg _ x 24 ho base 41 i0 (poleV 0 0 0) 3 24 Try.underlying24 hi hz0 hz1 hz2 rfl (by omega) (.slice none 0 0) 0 [] rfl (World.ownsRow_nil _ _ _ _) ⟨b, off, none⟩ l.length c3 (l.flatMap poleC) hx (flat_len poleC 3 poleC_len l) ?_ ?_ (by unfold maxLen; omega) (by omega) hbase ?_
    · intro j u hj
      rw [Addr.add_lit]
      exact hC.flat poleC_len (by omega) j u hj
    · intro u hu
      obtain ⟨t, _, hu⟩ := List.mem_flatMap.1 hu
      simp [poleC] at hu; rcases hu with rfl | rfl | rfl <;> rfl
    · intro v' w' h2 h3
      exact h v' w' (by simpa using h2) h3
theorem row_low {w : World} {base : Nat} {e : TypeId} {size : Nat} {v : Value} {n : Nat} {xs : List Value} (h : w.ownsRow base e size v n xs) {b : Nat} (hb : b < base) : some b ≠ v.ownBlock := by
  intro hc
  rcases h.2 with ⟨hv, _⟩ | ⟨g', cap, cur, hv, hg, _⟩
  · subst hv; cases hc
  · subst hv; simp [Value.ownBlock] at hc; omega
end Go.Proofs.Ytbmmjbklfheghaa.Ven
