/- Appends onto a row of its own, as steps of a region that draws. -/
import Derived.Test.YtoaapngfbidllaaNormP
import Derived.Maps.AppendAt
namespace Go.Proofs.Ytoaapngfbidllaa
set_option linter.unusedVariables false
open Go.RowKit Go.Shelf

/-- append onto a row of its own, as one step of a region that draws; where the new row lies. -/
theorem step_append_own_at {P : Program} {ops : Array Oper} {o : Oper} {a : Act} {w : World} {K : Act → World → Prop} {Q : Exit → Act → World → Prop} {E : Prop}
    (hg : o.guard = none) (s x : Operand) (t : TypeId) (ho : o.op = .call { callee := .builtin .append, args := #[s, x], argTypes := #[t, t] })
    (base : Nat) (e : TypeId) (i : TypeInfo) (z : Value) (size bytes : Nat) (ht : P.underlying t = some (.slice e)) (hi : P.info? e = some i) (hz : i.zero = some z)
    (hsize : i.size = size) (hby : i.bytes = bytes) (hzs : z.cells.size = size) (hsz : 0 < size)
    (v : Value) (n : Nat) (xs : List Value) (hs : a.eval s = v) (hown : w.ownsRow base e size v n xs)
    (ad : Addr) (m c : Nat) (news : List Value) (hx : a.eval x = .slice (some ad) m c) (hl : news.length = m * size) (hnews : ∀ j u, news[j]? = some u → w.cell? (ad.add j) = some u) (h1 : ∀ u ∈ news, u.oneCell' = true)
    (h63 : n + m ≤ maxLen) (hbytes : (n + m) * bytes ≤ 140737488355328) (hbase : base ≤ w.heap.size)
    (h : ∀ v' w', w'.ownsRow base e size v' (n + m) (xs ++ news) → w.grownBy w' v.ownBlock → (v'.ownBlock = v.ownBlock ∨ v'.ownBlock = some w.heap.size) → K (a.put o.dst v') w') :
    if Region.wanted o (yielded ops a.tmps) = true then Oper.wp P o a w K Q else E := by
  have hw : Region.wanted o (yielded ops a.tmps) = true := by simp [Region.wanted, hg]
  rw [if_pos hw]
  obtain ⟨v', w', hr, h2, h3, _, h5⟩ := run_append_own_at (P := P) w base t o.type e i z size bytes ht hi hz hsize hby hzs hsz v n xs hown ad m c news hl hnews h1 h63 hbytes hbase
  unfold Oper.wp execOp
  simp only [ho, resolve, invoke, builtin, Sem.run_bind, Sem.run_pure, Result.andThen_ok, List.map_toArray, List.map_cons, List.map_nil, hs, hx, hr]
  exact h v' w' h2 h3 h5
theorem append_no23 (ty : TypeId) (base : Option Addr) (n c : Nat) (h : n ≤ c) (w : World) : (Builtin.append_ #[23, 23] ty #[.slice base n c, .slice none 0 0]).run Try.prog w = .ok (.slice base n c) w := by
  have hs := Try.sizeOf3
  cases base <;> simp [Builtin.append_, go_sem, hs, h, Builtin.lenOf, Builtin.firstCells]
theorem append_no22 (ty : TypeId) (base : Option Addr) (n c : Nat) (h : n ≤ c) (w : World) : (Builtin.append_ #[22, 22] ty #[.slice base n c, .slice none 0 0]).run Try.prog w = .ok (.slice base n c) w := by
  have hs := Try.sizeOf34
  cases base <;> simp [Builtin.append_, go_sem, hs, h, Builtin.lenOf, Builtin.firstCells]
/-- append of nothing, as one step of a region that draws. -/
theorem step_append_no {ops : Array Oper} {o : Oper} {a : Act} {w : World} {K : Act → World → Prop} {Q : Exit → Act → World → Prop} {E : Prop}
    (hg : o.guard = none) (t : TypeId) (ht : t = 22 ∨ t = 23) (hty : o.type = t) (s x : Operand) (ho : o.op = .call { callee := .builtin .append, args := #[s, x], argTypes := #[t, t] })
    (base : Option Addr) (n c : Nat) (hs : a.eval s = .slice base n c) (hn : n ≤ c) (hx : a.eval x = .slice none 0 0)
    (h : K (a.put o.dst (.slice base n c)) w) :
    if Region.wanted o (yielded ops a.tmps) = true then Oper.wp Try.prog o a w K Q else E := by
  have hw : Region.wanted o (yielded ops a.tmps) = true := by simp [Region.wanted, hg]
  rw [if_pos hw]
  have hr : (Builtin.append_ #[t, t] o.type #[.slice base n c, .slice none 0 0]).run Try.prog w = .ok (.slice base n c) w := by
    rcases ht with rfl | rfl
    · exact append_no22 _ base n c hn w
    · exact append_no23 _ base n c hn w
  unfold Oper.wp execOp
  simp only [ho, resolve, invoke, builtin, Sem.run_bind, Sem.run_pure, Result.andThen_ok, List.map_toArray, List.map_cons, List.map_nil, hs, hx, hr]
  exact h
theorem below_al (w : World) (o : Obj) : Below w.heap.size w (w.alloc o) := (Below.refl _ w).alloc (Nat.le_refl _) o
theorem row_cap {w : World} {base : Nat} {e : TypeId} {size : Nat} {a : Option Addr} {n c : Nat} {xs : List Value} (h : w.ownsRow base e size (.slice a n c) n xs) : n ≤ c := by
  rcases h.2 with ⟨hv, hn⟩ | ⟨g', cap, cur, hv, _, hb, hn, _⟩
  · injection hv with _ h1 h2; omega
  · injection hv with _ h1 h2; omega
theorem row_high {w : World} {base : Nat} {e : TypeId} {size : Nat} {v : Value} {n : Nat} {xs : List Value} (h : w.ownsRow base e size v n xs) : ∀ k, v.ownBlock = some k → base ≤ k := by
  intro k hk
  rcases Nat.lt_or_ge k base with h' | h'
  · exact absurd hk.symm (row_low h h')
  · exact h'
theorem row_ne_size {w : World} {base : Nat} {e : TypeId} {size : Nat} {v : Value} {n : Nat} {xs : List Value} (h : w.ownsRow base e size v n xs) : v.ownBlock ≠ some w.heap.size := by
  intro hc
  rcases h.2 with ⟨hv, _⟩ | ⟨g', cap, cur, hv, _, hb, _⟩
  · subst hv; cases hc
  · subst hv
    have := (Array.getElem?_eq_some_iff.1 hb).1
    simp [Value.ownBlock] at hc; omega
theorem loc_ne {v v' : Value} {s g : Nat} (h : v.ownBlock ≠ some g) (hg : g < s) (hl : v'.ownBlock = v.ownBlock ∨ v'.ownBlock = some s) : v'.ownBlock ≠ some g := by
  rcases hl with h' | h'
  · rw [h']; exact h
  · rw [h']; intro hc; injection hc with hc; omega
theorem seat_one (l : List Seat) (u : Value) (hu : u ∈ l.flatMap seatC) : u.oneCell' = true := by
  obtain ⟨t, _, hu⟩ := List.mem_flatMap.1 hu
  simp [seatC] at hu; rcases hu with rfl | rfl | rfl | rfl <;> rfl
theorem int_one (l : List Int) (u : Value) (hu : u ∈ l.flatMap intC) : u.oneCell' = true := by
  obtain ⟨t, _, hu⟩ := List.mem_flatMap.1 hu
  simp [intC] at hu; subst hu; rfl
theorem Cells.flat_takeG {α : Type} {k : Nat} {enc : α → List Value} {w : World} {b off : Nat} {l : List α} {j : Nat} (h : Cells k enc w b off l) (hk : ∀ x, (enc x).length = k) (h0 : 0 < k) (q : Nat) (u : Value) (hq : ((l.take j).flatMap enc)[q]? = some u) : w.cell? ⟨b, off + q, none⟩ = some u := by
  refine h.flat hk h0 q u ?_
  have e : l.flatMap enc = (l.take j).flatMap enc ++ (l.drop j).flatMap enc := by rw [← List.flatMap_append, List.take_append_drop]
  rw [e, List.getElem?_append_left (List.getElem?_eq_some_iff.1 hq).1]
  exact hq
theorem Cells.flat_dropG {α : Type} {k : Nat} {enc : α → List Value} {w : World} {b off : Nat} {l : List α} {j : Nat} (h : Cells k enc w b off l) (hk : ∀ x, (enc x).length = k) (h0 : 0 < k) (hj : j ≤ l.length) (q : Nat) (u : Value) (hq : ((l.drop j).flatMap enc)[q]? = some u) : w.cell? ⟨b, off + j * k + q, none⟩ = some u := by
  rw [Nat.add_assoc]
  refine h.flat hk h0 _ u ?_
  have e : l.flatMap enc = (l.take j).flatMap enc ++ (l.drop j).flatMap enc := by rw [← List.flatMap_append, List.take_append_drop]
  have hl : ((l.take j).flatMap enc).length = j * k := by rw [flat_len enc k hk, List.length_take, Nat.min_eq_left hj]
  rw [e, List.getElem?_append_right (by omega), hl, Nat.add_sub_cancel_left]
  exact hq
end Go.Proofs.Ytoaapngfbidllaa
