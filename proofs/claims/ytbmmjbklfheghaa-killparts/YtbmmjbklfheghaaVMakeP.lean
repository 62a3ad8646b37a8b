/- What parterrelaw3.Make holds while it makes a venue. -/
import Derived.Test.YtbmmjbklfheghaaVOrdP
import Derived.Test.YtbmmjbklfheghaaVZero
import Derived.Test.YtbmmjbklfheghaaVQuiet
namespace Go.Proofs.Ytbmmjbklfheghaa.Ven
set_option linter.unusedVariables false
open Go.RowKit Go.Shelf

theorem mod_u64 (z : Int) (m : Int) (h0 : 0 < m) : ∃ k : Nat, (k : Int) < m ∧ (IntKind.u64.wrap z).tmod m = k := by
  have hw : 0 ≤ IntKind.u64.wrap z := by
    unfold IntKind.wrap
    simp [IntKind.signed, IntKind.bits]
    omega
  have e : (IntKind.u64.wrap z).tmod m = (IntKind.u64.wrap z) % m := Int.tmod_eq_emod_of_nonneg hw
  have l0 := Int.emod_nonneg (IntKind.u64.wrap z) (show m ≠ 0 by omega)
  have l1 := Int.emod_lt_of_pos (IntKind.u64.wrap z) h0
  exact ⟨(IntKind.u64.wrap z % m).toNat, by omega, by rw [e]; omega⟩
/-- A venue under way: all its seats stand at or ahead of (row, x). -/
structure MkOK (V : Ven) (row x : Int) : Prop where
  len : 1 ≤ V.seats.length
  rise : V.seats.Pairwise (fun a b => ltS a b = true)
  last : ∀ s ∈ V.seats, s.row < row ∨ (s.row = row ∧ s.x ≤ x)
  ok : ∀ s ∈ V.seats, seatB s = true
  r0 : 0 ≤ row
  r1 : row < V.seats.length
  x0 : 0 ≤ x
  x1 : x ≤ 15 * V.seats.length
  gap : V.gap = 10
  rad : 0 ≤ V.radius ∧ V.radius ≤ 24
  kr : V.kills.Pairwise (fun a b => a < b)
  kl : ∀ k ∈ V.kills, 0 ≤ k ∧ k < V.seats.length
  kn : V.kills.length ≤ V.seats.length
  po : ∀ p ∈ V.poles, poleB p = true
  pn : V.poles.length ≤ V.seats.length
  sm : ∀ s ∈ V.seats, 0 ≤ s.x ∧ s.x ≤ 930 ∧ 0 ≤ s.y ∧ s.y ≤ 610
theorem mk_start : MkOK ⟨[⟨0, 0, 0, 0⟩], 10, 0, [], []⟩ 0 0 where
  len := by decide
  rise := by simp
  last := by intro s hs; simp at hs; subst hs; right; exact ⟨rfl, Int.le_refl _⟩
  ok := by intro s hs; simp at hs; subst hs; decide
  r0 := by decide
  r1 := by decide
  x0 := by decide
  x1 := by decide
  gap := rfl
  rad := by decide
  kr := List.Pairwise.nil
  kl := by simp
  kn := by simp
  po := by simp
  pn := by simp
  sm := by intro s hs; simp at hs; subst hs; decide
theorem seatB_small (r x y k : Int) (h1 : 0 ≤ r) (h2 : r < 1000) (h3 : -1048576 ≤ x) (h4 : x ≤ 1048576) (h5 : -1048576 ≤ y) (h6 : y ≤ 1048576) (h7 : 0 ≤ k) (h8 : k ≤ 2) : seatB ⟨r, x, y, k⟩ = true := by
  have b1 : rowB r = true := by unfold rowB; rw [decide_eq_true h1, decide_eq_true h2]; rfl
  have b2 : coordB x = true := by unfold coordB; rw [decide_eq_true h3, decide_eq_true h4]; rfl
  have b3 : coordB y = true := by unfold coordB; rw [decide_eq_true h5, decide_eq_true h6]; rfl
  have b4 : kindB k = true := by unfold kindB; rw [decide_eq_true h7, decide_eq_true h8]; rfl
  unfold seatB standsB
  rw [b1, b2, b3, b4]; rfl
theorem poleB_small (x y r : Int) (h3 : -1048576 ≤ x) (h4 : x ≤ 1048576) (h5 : -1048576 ≤ y) (h6 : y ≤ 1048576) (h7 : 1 ≤ r) (h8 : r ≤ 1048576) : poleB ⟨x, y, r⟩ = true := by
  have b2 : coordB x = true := by unfold coordB; rw [decide_eq_true h3, decide_eq_true h4]; rfl
  have b3 : coordB y = true := by unfold coordB; rw [decide_eq_true h5, decide_eq_true h6]; rfl
  have b4 : lengthB r = true := by unfold lengthB; rw [decide_eq_true h7, decide_eq_true h8]; rfl
  unfold poleB standsB
  rw [b2, b3, b4]; rfl
/-- A seat more, further on. -/
theorem MkOK.seat {V : Ven} {row x : Int} (h : MkOK V row x) (hl : V.seats.length ≤ 60) (row' x' k : Int) (hk0 : 0 ≤ k) (hk2 : k ≤ 2)
    (hn : (row' = row + 1 ∧ x' = 0) ∨ (row' = row ∧ x < x' ∧ x' ≤ x + 15)) : MkOK { V with seats := V.seats ++ [⟨row', x', 10 * row', k⟩] } row' x' := by
  have g1 := h.r0
  have g2 := h.r1
  have g3 := h.x0
  have g4 := h.x1
  have hlen : (V.seats ++ [(⟨row', x', 10 * row', k⟩ : Seat)]).length = V.seats.length + 1 := by simp
  exact {
    len := by show 1 ≤ (V.seats ++ [_]).length; rw [hlen]; omega
    rise := by
      show (V.seats ++ [_]).Pairwise _
      rw [List.pairwise_append]
      refine ⟨h.rise, by simp, ?_⟩
      intro a ha b hb
      simp at hb; subst hb
      rw [ltS_iff]
      have := h.last a ha
      show a.row < row' ∨ a.row = row' ∧ a.x < x'
      omega
    last := by
      intro s hs
      rcases List.mem_append.1 hs with hs | hs
      · have := h.last s hs; omega
      · simp at hs; subst hs; right; exact ⟨rfl, Int.le_refl _⟩
    ok := by
      intro s hs
      rcases List.mem_append.1 hs with hs | hs
      · exact h.ok s hs
      · simp at hs; subst hs
        exact seatB_small _ _ _ _ (by omega) (by omega) (by omega) (by omega) (by omega) (by omega) hk0 hk2
    r0 := by omega
    r1 := by show row' < ((V.seats ++ [_]).length : Int); rw [hlen]; omega
    x0 := by omega
    x1 := by show x' ≤ 15 * ((V.seats ++ [_]).length : Int); rw [hlen]; omega
    gap := h.gap
    rad := h.rad
    kr := h.kr
    kl := fun q hq => by have := h.kl q hq; show 0 ≤ q ∧ q < ((V.seats ++ [_]).length : Int); rw [hlen]; omega
    kn := by show _ ≤ (V.seats ++ [_]).length; rw [hlen]; exact Nat.le_trans h.kn (by omega)
    po := h.po
    pn := by show _ ≤ (V.seats ++ [_]).length; rw [hlen]; exact Nat.le_trans h.pn (by omega)
    sm := by
      intro s hs
      rcases List.mem_append.1 hs with hs | hs
      · exact h.sm s hs
      · simp at hs; subst hs
        show 0 ≤ x' ∧ x' ≤ 930 ∧ 0 ≤ 10 * row' ∧ 10 * row' ≤ 610
        omega }
/-- The last seat killed. (No other one may be behind it.) -/
theorem MkOK.kill {V : Ven} {row x : Int} (h : MkOK V row x) (hb : ∀ k ∈ V.kills, k < (V.seats.length : Int) - 1) : MkOK { V with kills := V.kills ++ [(V.seats.length : Int) - 1] } row x := by
  have g := h.len
  exact { h with
    kr := by
      show (V.kills ++ [_]).Pairwise _
      rw [List.pairwise_append]
      refine ⟨h.kr, by simp, ?_⟩
      intro a ha b hb'
      simp at hb'; subst hb'
      exact hb a ha
    kl := by
      intro q hq
      rcases List.mem_append.1 hq with hq | hq
      · exact h.kl q hq
      · simp at hq; subst hq; show 0 ≤ (V.seats.length : Int) - 1 ∧ (V.seats.length : Int) - 1 < V.seats.length; omega
    kn := by
      have hlen : (V.kills ++ [(V.seats.length : Int) - 1]).length = V.kills.length + 1 := by simp
      show (V.kills ++ [_]).length ≤ V.seats.length
      rw [hlen]
      -- the kills are unlike numbers below the last one
      have : V.kills.length ≤ V.seats.length - 1 := rising_len V.kills (V.seats.length - 1) h.kr (fun k hk => by have := h.kl k hk; have := hb k hk; omega)
      omega }
where
  rising_len : ∀ (l : List Int) (n : Nat), l.Pairwise (fun a b => a < b) → (∀ k ∈ l, 0 ≤ k ∧ k < n) → l.length ≤ n := by
    intro l
    induction l with
    | nil => intro n _ _; exact Nat.zero_le _
    | cons a r ih =>
      intro n hp hb
      rw [List.pairwise_cons] at hp
      have ha := hb a List.mem_cons_self
      have key : ∀ (r : List Int) (a : Int) (n : Nat), r.Pairwise (fun a b => a < b) → (∀ b ∈ r, a < b) → (∀ k ∈ r, k < n) → 0 ≤ a → a < n → (r.length : Int) ≤ n - 1 - a := by
        intro r
        induction r with
        | nil => intro a n _ _ _ h0 h1; simp; omega
        | cons c q ih2 =>
          intro a n hp ha hn h0 h1
          rw [List.pairwise_cons] at hp
          have h2 := ha c List.mem_cons_self
          have h3 := hn c List.mem_cons_self
          have := ih2 c n hp.2 hp.1 (fun k hk => hn k (List.mem_cons_of_mem _ hk)) (by omega) h3
          rw [List.length_cons]; omega
      have := key r a n hp.2 hp.1 (fun k hk => (hb k (List.mem_cons_of_mem _ hk)).2) ha.1 ha.2
      rw [List.length_cons]; omega
theorem MkOK.pole {V : Ven} {row x : Int} (h : MkOK V row x) (hl : V.seats.length ≤ 60) (t : Int) (ht : 1 ≤ t ∧ t ≤ 12) (hp : V.poles.length < V.seats.length) : MkOK { V with poles := V.poles ++ [⟨x, 10 * row, t⟩] } row x := by
  have g1 := h.r0
  have g2 := h.r1
  have g3 := h.x0
  have g4 := h.x1
  exact { h with
    po := by
      intro q hq
      rcases List.mem_append.1 hq with hq | hq
      · exact h.po q hq
      · simp at hq; subst hq
        exact poleB_small _ _ _ (by omega) (by omega) (by omega) (by omega) (by omega) (by omega)
    pn := by
      have hlen : (V.poles ++ [(⟨x, 10 * row, t⟩ : Pole)]).length = V.poles.length + 1 := by simp
      show (V.poles ++ [_]).length ≤ V.seats.length
      rw [hlen]; omega }
theorem MkOK.radius {V : Ven} {row x : Int} (h : MkOK V row x) (t : Int) (ht : 0 ≤ t ∧ t ≤ 24) : MkOK { V with radius := t } row x := { h with rad := ht }
theorem MkOK.may {V : Ven} {row x : Int} (h : MkOK V row x) (hl : V.seats.length ≤ 60) : mayB V = true := by
  have h1 : seatsB V.seats = true := (seatsB_iff _).2 ⟨h.len, by omega, h.ok, h.rise⟩
  have h2 : lengthB V.gap = true := by rw [h.gap]; decide
  have h3 : distB V.radius = true := by
    unfold distB; rw [decide_eq_true h.rad.1, decide_eq_true (by have := h.rad.2; omega)]; rfl
  have h4 : killsB V.kills V.seats.length = true := (killsB_iff _ _).2 ⟨Nat.le_trans h.kn (by omega), fun k hk => by
    have := h.kl k hk
    unfold isSeatB; rw [decide_eq_true this.1, decide_eq_true this.2]; rfl, h.kr⟩
  have h5 : polesB V.poles = true := (polesB_iff _).2 ⟨Nat.le_trans h.pn (by omega), h.po⟩
  unfold mayB; rw [h1, h2, h3, h4, h5]; rfl

/-- The venue under way, in memory. -/
structure MSt (w W : World) (az : Option Addr) (cs : Nat) (ak : Option Addr) (ck : Nat) (ap : Option Addr) (cp : Nat) (V : Ven) : Prop where
  below : Below w.heap.size w W
  sz : w.heap.size ≤ W.heap.size
  b4 : Box W w.heap.size 26 Zero5
  b5 : Box W (w.heap.size + 1 + 1) 26 #[.slice az V.seats.length cs, .int .i64 V.gap, .int .i64 V.radius, .slice ak V.kills.length ck, .slice ap V.poles.length cp]
  so : W.ownsRow w.heap.size 44 4 (.slice az V.seats.length cs) V.seats.length (V.seats.flatMap seatC)
  ko : W.ownsRow w.heap.size 3 1 (.slice ak V.kills.length ck) V.kills.length (V.kills.flatMap intC)
  po : W.ownsRow w.heap.size 41 3 (.slice ap V.poles.length cp) V.poles.length (V.poles.flatMap poleC)
variable {w W : World} {az : Option Addr} {cs : Nat} {ak : Option Addr} {ck : Nat} {ap : Option Addr} {cp : Nat} {V : Ven}
theorem MSt.next (h : MSt w W az cs ak ck ap cp V) {W' : World} (hb : Below W.heap.size W W') : MSt w W' az cs ak ck ap cp V :=
  ⟨h.below.trans (hb.mono h.sz), Nat.le_trans h.sz hb.size, h.b4.next hb, h.b5.next hb, row_next h.so hb, row_next h.ko hb, row_next h.po hb⟩
theorem grown_low {w W W' : World} {e : TypeId} {size : Nat} {v : Value} {n : Nat} {xs : List Value} (hb : Below w.heap.size w W) (ho : W.ownsRow w.heap.size e size v n xs) (hg : W.grownBy W' v.ownBlock) : Below w.heap.size w W' :=
  hb.grown hg hb.size (by
    intro t ht
    rcases Nat.lt_or_ge t w.heap.size with hlt' | hge
    · exact absurd ht.symm (row_low ho hlt')
    · exact hge)
theorem MSt.seat (h : MSt w W az cs ak ck ap cp V) {W' : World} {az' : Option Addr} {cs' : Nat} (s : Seat) (ho : W'.ownsRow w.heap.size 44 4 (.slice az' (V.seats.length + 1) cs') (V.seats.length + 1) (V.seats.flatMap seatC ++ seatC s)) (hg : W.grownBy W' (Value.slice az V.seats.length cs).ownBlock) :
    MSt w (W'.setCell ⟨w.heap.size + 1 + 1, 0, none⟩ (.slice az' (V.seats.length + 1) cs')) az' cs' ak ck ap cp { V with seats := V.seats ++ [s] } := by
  have hx := h.b5.grown hg (h.b5.not_row (by decide) h.so)
  have hlen : (V.seats ++ [s]).length = V.seats.length + 1 := by simp
  exact {
    below := Below.setCell (grown_low h.below h.so hg) (by simp; omega) _
    sz := by simpa using Nat.le_trans h.sz hg.size
    b4 := (h.b4.grown hg (h.b4.not_row (by decide) h.so)).other _ 0 (by omega) _
    b5 := by show Box _ _ _ #[.slice az' (V.seats ++ [s]).length cs', _, _, _, _]; rw [hlen]; exact hx.set 0 _
    so := by
      show World.ownsRow _ _ _ _ (.slice az' (V.seats ++ [s]).length cs') (V.seats ++ [s]).length ((V.seats ++ [s]).flatMap seatC)
      rw [hlen, List.flatMap_append]
      have := row_setCell ho hx (by decide) 0 (.slice az' (V.seats.length + 1) cs')
      simpa using this
    ko := row_setCell (row_grown h.ko h.so (by decide) hg) hx (by decide) 0 _
    po := row_setCell (row_grown h.po h.so (by decide) hg) hx (by decide) 0 _ }
theorem MSt.kill (h : MSt w W az cs ak ck ap cp V) {W' : World} {ak' : Option Addr} {ck' : Nat} (k : Int) (ho : W'.ownsRow w.heap.size 3 1 (.slice ak' (V.kills.length + 1) ck') (V.kills.length + 1) (V.kills.flatMap intC ++ [.int .i64 k])) (hg : W.grownBy W' (Value.slice ak V.kills.length ck).ownBlock) :
    MSt w (W'.setCell ⟨w.heap.size + 1 + 1, 3, none⟩ (.slice ak' (V.kills.length + 1) ck')) az cs ak' ck' ap cp { V with kills := V.kills ++ [k] } := by
  have hx := h.b5.grown hg (h.b5.not_row (by decide) h.ko)
  have hlen : (V.kills ++ [k]).length = V.kills.length + 1 := by simp
  exact {
    below := Below.setCell (grown_low h.below h.ko hg) (by simp; omega) _
    sz := by simpa using Nat.le_trans h.sz hg.size
    b4 := (h.b4.grown hg (h.b4.not_row (by decide) h.ko)).other _ 3 (by omega) _
    b5 := by show Box _ _ _ #[_, _, _, .slice ak' (V.kills ++ [k]).length ck', _]; rw [hlen]; exact hx.set 3 _
    so := row_setCell (row_grown h.so h.ko (by decide) hg) hx (by decide) 3 _
    ko := by
      show World.ownsRow _ _ _ _ (.slice ak' (V.kills ++ [k]).length ck') (V.kills ++ [k]).length ((V.kills ++ [k]).flatMap intC)
      rw [hlen, List.flatMap_append]
      have := row_setCell ho hx (by decide) 3 (.slice ak' (V.kills.length + 1) ck')
      simpa [intC] using this
    po := row_setCell (row_grown h.po h.ko (by decide) hg) hx (by decide) 3 _ }
theorem MSt.pole (h : MSt w W az cs ak ck ap cp V) {W' : World} {ap' : Option Addr} {cp' : Nat} (p : Pole) (ho : W'.ownsRow w.heap.size 41 3 (.slice ap' (V.poles.length + 1) cp') (V.poles.length + 1) (V.poles.flatMap poleC ++ poleC p)) (hg : W.grownBy W' (Value.slice ap V.poles.length cp).ownBlock) :
    MSt w (W'.setCell ⟨w.heap.size + 1 + 1, 4, none⟩ (.slice ap' (V.poles.length + 1) cp')) az cs ak ck ap' cp' { V with poles := V.poles ++ [p] } := by
  have hx := h.b5.grown hg (h.b5.not_row (by decide) h.po)
  have hlen : (V.poles ++ [p]).length = V.poles.length + 1 := by simp
  exact {
    below := Below.setCell (grown_low h.below h.po hg) (by simp; omega) _
    sz := by simpa using Nat.le_trans h.sz hg.size
    b4 := (h.b4.grown hg (h.b4.not_row (by decide) h.po)).other _ 4 (by omega) _
    b5 := by show Box _ _ _ #[_, _, _, _, .slice ap' (V.poles ++ [p]).length cp']; rw [hlen]; exact hx.set 4 _
    so := row_setCell (row_grown h.so h.po (by decide) hg) hx (by decide) 4 _
    ko := row_setCell (row_grown h.ko h.po (by decide) hg) hx (by decide) 4 _
    po := by
      show World.ownsRow _ _ _ _ (.slice ap' (V.poles ++ [p]).length cp') (V.poles ++ [p]).length ((V.poles ++ [p]).flatMap poleC)
      rw [hlen, List.flatMap_append]
      have := row_setCell ho hx (by decide) 4 (.slice ap' (V.poles.length + 1) cp')
      simpa using this }
theorem MSt.radius (h : MSt w W az cs ak ck ap cp V) (t : Int) : MSt w (W.setCell ⟨w.heap.size + 1 + 1, 2, none⟩ (.int .i64 t)) az cs ak ck ap cp { V with radius := t } :=
  { below := Below.setCell h.below (by simp; omega) _, sz := by simpa using h.sz, b4 := h.b4.other _ 2 (by omega) _, b5 := h.b5.set 2 _, so := row_setCell h.so h.b5 (by decide) 2 _, ko := row_setCell h.ko h.b5 (by decide) 2 _, po := row_setCell h.po h.b5 (by decide) 2 _ }
theorem MSt.ven (h : MSt w W az cs ak ck ap cp V) : VenAt W az V.seats.length cs ak V.kills.length ck ap V.poles.length cp V := ⟨row_sl seatC_len h.so, row_sl intC_len h.ko, row_sl poleC_len h.po⟩
end Go.Proofs.Ytbmmjbklfheghaa.Ven
