/- Rows of poles that grow in a statement that draws its order. -/
import Derived.Test.YtbmmjbklfheghaaVInv
import Derived.Test.YtbmmjbklfheghaaCInts
import Derived.Test.YtbmmjbklfheghaaVMakeA
namespace Go.Proofs.Ytbmmjbklfheghaa.Kll
set_option linter.unusedVariables false
set_option maxRecDepth 100000
open Go.RowKit Go.Shelf
open Go.Proofs.Ytbmmjbklfheghaa.Ven (Seat Pole Ven poleV poleC poleC_len seatC intC Box info39 flat_len row_next row_same row_sl row_setCell row_grown row_low getD_set Sl)

/-- The slice is a row of its own, of these poles. -/
def Poles (base : Nat) (w : World) (v : Value) (l : List Pole) : Prop := w.ownsRow base 41 3 v l.length (l.flatMap poleC)
theorem Poles.next {base : Nat} {w w' : World} {v : Value} {l : List Pole} (h : Poles base w v l) (hb : Below w.heap.size w w') : Poles base w' v l := row_next h hb
theorem Poles.sl {base : Nat} {w : World} {v : Value} {l : List Pole} (h : Poles base w v l) : Sl 3 poleC w v l := row_sl poleC_len h
theorem Poles.one {w : World} {g : Nat} {p : Pole} (h : Box w g 41 #[.int .i64 p.x, .int .i64 p.y, .int .i64 p.r]) : Poles 0 w (.slice (some ⟨g, 0, none⟩) 1 1) [p] :=
  ⟨rfl, .inr ⟨g, 1, _, rfl, Nat.zero_le _, h, Nat.le_refl _, by decide, rfl, rfl⟩⟩
theorem Poles.none {w : World} {g base : Nat} (h : Box w g 41 #[]) (hg : base ≤ g) : Poles base w (.slice (some ⟨g, 0, none⟩) 0 0) [] :=
  ⟨rfl, .inr ⟨g, 0, _, rfl, hg, h, Nat.le_refl _, by decide, rfl, rfl⟩⟩
/-- append of a row of poles onto a row of its own, as one step of a region that draws. -/
theorem step_append_poles {ops : Array Oper} {o : Oper} {a : Act} {w : World} {K : Act → World → Prop} {Q : Exit → Act → World → Prop} {E : Prop}
    (hg : o.guard = Option.none) (s x : Operand) (ho : o.op = .call { callee := .builtin .append, args := #[s, x], argTypes := #[24, 24] })
    (base base2 : Nat) (v u : Value) (l m : List Pole) (hs : a.eval s = v) (hown : Poles base w v l) (hx : a.eval x = u) (hu : Poles base2 w u m) (hl : l.length ≤ 1000) (hm : m.length ≤ 1000) (hbase : base ≤ w.heap.size)
    (h : ∀ v' w', Poles base w' v' (l ++ m) → w.grownBy w' v.ownBlock → K (a.put o.dst v') w') :
    if Region.wanted o (yielded ops a.tmps) = true then Oper.wp Try.prog o a w K Q else E := by
  have hw : Region.wanted o (yielded ops a.tmps) = true := by simp [Region.wanted, hg]
  rw [if_pos hw]
  obtain ⟨i0, hi0, hz0, hz1, hz2⟩ := info39
  rcases hu.2 with ⟨he, hn⟩ | ⟨g, cap, cur, he, _⟩
  · have hm0 : m = [] := List.eq_nil_of_length_eq_zero hn
    subst hm0 he
    have hr := run_append_owned_none (P := Try.prog) (w := w) base 24 o.type 41 i0 3 Try.underlying24 hi0 v l.length _ hown
    unfold Oper.wp execOp
    simp only [ho, resolve, invoke, builtin, Sem.run_bind, Sem.run_pure, Result.andThen_ok, List.map_toArray, List.map_cons, List.map_nil, hs, hx, hr]
    exact h v w (by rw [List.append_nil]; exact hown) ⟨rfl, rfl, rfl, Nat.le_refl _, fun _ _ _ => rfl⟩
  · subst he
    refine wp_append_own w s x 24 ho base 41 i0 (poleV 0 0 0) 3 24 Try.underlying24 hi0 hz0 hz1 hz2 rfl (by omega) v l.length _ hs hown ⟨g, 0, Option.none⟩ m.length cap (m.flatMap poleC) hx hu.1 (fun j z hz => World.ownsRow.cells hu rfl j z hz) ?_ (by unfold maxLen; omega) (by omega) hbase ?_
    · intro z hz
      obtain ⟨t, _, hz⟩ := List.mem_flatMap.1 hz
      simp [poleC] at hz; rcases hz with rfl | rfl | rfl <;> rfl
    · intro v' w' h2 h3 _
      refine h v' w' ?_ h3
      show w'.ownsRow _ _ _ _ _ _
      rw [List.flatMap_append, List.length_append]; exact h2
/-- A copy of poles, and a pole behind it: what is known, by what is done (0: the empty row; 3: the copy; 22: the one pole; 23: all). -/
def MoreG (base : Nat) (ps : List Pole) (p : Pole) (listed : Array Bool) (t : Array Value) (w : World) : Prop :=
  (listed.getD 0 false = true → listed.getD 3 false = false → ∃ g, t[24]? = some (.slice (some ⟨g, 0, Option.none⟩) 0 0) ∧ base ≤ g ∧ Box w g 41 #[]) ∧
  (listed.getD 3 false = true → listed.getD 23 false = false → ∃ v, t[27]? = some v ∧ Poles base w v ps) ∧
  (listed.getD 22 false = true → listed.getD 23 false = false → ∃ g, t[46]? = some (.slice (some ⟨g, 0, Option.none⟩) 1 1) ∧ Box w g 41 #[.int .i64 p.x, .int .i64 p.y, .int .i64 p.r]) ∧
  (listed.getD 23 false = true → ∃ v, t[47]? = some v ∧ Poles base w v (ps ++ [p]))
section
variable {base : Nat} {ps : List Pole} {p : Pole} {listed : Array Bool} {t : Array Value} {w : World}
theorem MoreG.same (h : MoreG base ps p listed t w) {i d : Nat} (v : Value) (hls : i < listed.size) (hi : i ≠ 0 ∧ i ≠ 3 ∧ i ≠ 22 ∧ i ≠ 23) (hd : d ≠ 24 ∧ d ≠ 27 ∧ d ≠ 46 ∧ d ≠ 47) : MoreG base ps p (listed.setIfInBounds i true) (t.setIfInBounds d v) w := by
  unfold MoreG at *
  rw [getD_set hls, getD_set hls, getD_set hls, getD_set hls, if_neg hi.1, if_neg hi.2.1, if_neg hi.2.2.1, if_neg hi.2.2.2, Array.getElem?_setIfInBounds_ne hd.1, Array.getElem?_setIfInBounds_ne hd.2.1, Array.getElem?_setIfInBounds_ne hd.2.2.1, Array.getElem?_setIfInBounds_ne hd.2.2.2]
  exact h
theorem MoreG.first (h : MoreG base ps p listed t w) (hls : 0 < listed.size) (hsz : t.size = 91) (n3 : listed.getD 3 false = false) (n23 : listed.getD 23 false = false) (hb : base ≤ w.heap.size) :
    MoreG base ps p (listed.setIfInBounds 0 true) (t.setIfInBounds 24 (.slice (some ⟨w.heap.size, 0, Option.none⟩) 0 0)) (w.alloc (.cells #[] 41)) := by
  obtain ⟨_, _, h22, _⟩ := h
  refine ⟨?_, ?_, ?_, ?_⟩
  · intro _ _; exact ⟨_, by simp [hsz], hb, Box.fresh w _ _⟩
  · rw [getD_set hls, if_neg (by omega), n3]; intro h; cases h
  · rw [getD_set hls, if_neg (by omega), getD_set hls, if_neg (by omega)]
    intro h1 h2
    obtain ⟨g, q1, q2⟩ := h22 h1 h2
    exact ⟨g, by simpa using q1, q2.next ((Below.refl _ w).alloc (Nat.le_refl _) _)⟩
  · rw [getD_set hls, if_neg (by omega), n23]; intro h; cases h
theorem MoreG.copied (h : MoreG base ps p listed t w) (hls : 3 < listed.size) (hsz : t.size = 91) (n23 : listed.getD 23 false = false) {g : Nat} (hx : Box w g 41 #[]) {v : Value} {w' : World} (hv : Poles base w' v ps) (hg : w.grownBy w' (some g)) :
    MoreG base ps p (listed.setIfInBounds 3 true) (t.setIfInBounds 27 v) w' := by
  obtain ⟨_, _, h22, _⟩ := h
  refine ⟨?_, ?_, ?_, ?_⟩
  · rw [getD_set hls, getD_set hls, if_pos rfl]; intro _ h; cases h
  · intro _ _; exact ⟨v, by simp [hsz], hv⟩
  · rw [getD_set hls, if_neg (by omega), getD_set hls, if_neg (by omega)]
    intro h1 h2
    obtain ⟨g2, q1, q2⟩ := h22 h1 h2
    refine ⟨g2, by simpa using q1, q2.grown hg (fun e => ?_)⟩
    obtain rfl : g2 = g := Option.some.inj e
    unfold Box at hx q2
    rw [hx] at q2
    injection q2 with q2; injection q2 with q2
    have := congrArg Array.size q2
    simp at this
  · rw [getD_set hls, if_neg (by omega), n23]; intro h; cases h
theorem MoreG.lit (h : MoreG base ps p listed t w) (hls : 22 < listed.size) (hsz : t.size = 91) (n23 : listed.getD 23 false = false) :
    MoreG base ps p (listed.setIfInBounds 22 true) (t.setIfInBounds 46 (.slice (some ⟨w.heap.size, 0, Option.none⟩) 1 1)) (w.alloc (.cells #[.int .i64 p.x, .int .i64 p.y, .int .i64 p.r] 41)) := by
  obtain ⟨h0, h3, _, _⟩ := h
  refine ⟨?_, ?_, ?_, ?_⟩
  · rw [getD_set hls, if_neg (by omega), getD_set hls, if_neg (by omega)]
    intro h1 h2
    obtain ⟨g, q1, q2, q3⟩ := h0 h1 h2
    exact ⟨g, by simpa using q1, q2, q3.next ((Below.refl _ w).alloc (Nat.le_refl _) _)⟩
  · rw [getD_set hls, if_neg (by omega), getD_set hls, if_neg (by omega)]
    intro h1 h2
    obtain ⟨v, q1, q2⟩ := h3 h1 h2
    exact ⟨v, by simpa using q1, q2.next ((Below.refl _ w).alloc (Nat.le_refl _) _)⟩
  · intro _ _; exact ⟨_, by simp [hsz], Box.fresh w _ _⟩
  · rw [getD_set hls, if_neg (by omega), n23]; intro h; cases h
theorem MoreG.all (hls : 23 < listed.size) (hsz : t.size = 91) (y3 : listed.getD 3 false = true) {v : Value} {w' : World} (hv : Poles base w' v (ps ++ [p])) :
    MoreG base ps p (listed.setIfInBounds 23 true) (t.setIfInBounds 47 v) w' := by
  refine ⟨?_, ?_, ?_, ?_⟩
  · rw [getD_set hls, if_neg (by omega), getD_set hls, if_neg (by omega), y3]; intro _ h; cases h
  · rw [getD_set hls, if_neg (by omega), getD_set hls, if_pos rfl]; intro _ h; cases h
  · rw [getD_set hls, if_neg (by omega), getD_set hls, if_pos rfl]; intro _ h; cases h
  · intro _; exact ⟨v, by simp [hsz], hv⟩
end
end Go.Proofs.Ytbmmjbklfheghaa.Kll
