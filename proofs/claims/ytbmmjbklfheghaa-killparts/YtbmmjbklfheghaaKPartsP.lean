/- KillParts: plain facts, and a venue whose poles grow in memory. -/
import Derived.Test.YtbmmjbklfheghaaKApp
import Derived.Test.YtbmmjbklfheghaaKRef
namespace Go.Proofs.Ytbmmjbklfheghaa.Kll
set_option linter.unusedVariables false
set_option maxRecDepth 100000
open Go.RowKit Go.Shelf
open Go.Proofs.Ytbmmjbklfheghaa.Ven (Seat Pole Ven VenAt mayB seatC seatC_len intC intC_len poleC Box row_next row_sl row_setCell row_grown row_low getD_set polesB polesB_iff poleB lengthB standsB)
open Go.Proofs.Ytbmmjbklfheghaa.Geo (thoseN thoseN_succ thoseN_mem thoseN_pairwise thoseN_le)

/-- The venue with other poles. -/
def withV (V : Ven) (ps : List Pole) : Ven := { V with poles := ps }
theorem with_may {V : Ven} (h : mayB V = true) {ps : List Pole} (hl : ps.length ≤ 200) (hp : ∀ p ∈ ps, poleB p = true) : mayB (withV V ps) = true := by
  unfold mayB at h ⊢
  simp only [Bool.and_eq_true] at h ⊢
  exact ⟨h.1, (polesB_iff _).2 ⟨hl, hp⟩⟩
theorem may_poles {V : Ven} (h : mayB V = true) : V.poles.length ≤ 200 ∧ ∀ p ∈ V.poles, poleB p = true := by
  unfold mayB at h
  simp only [Bool.and_eq_true] at h
  exact (polesB_iff _).1 h.2
theorem small_pole {x y r : Nat} (hx : x < 200) (hy : y < 60) (hr : r < 40) : poleB ⟨x, y, 1 + (r : Int)⟩ = true := by
  unfold poleB lengthB standsB Ven.coordB
  simp only [Bool.and_eq_true, decide_eq_true_eq]
  omega
/-- Those up to 'n' begin with those up to 'i'. -/
theorem thoseN_split (p : Nat → Bool) (i : Nat) : ∀ n, i ≤ n → ∃ r, thoseN n p = thoseN i p ++ r
  | 0, h => by obtain rfl : i = 0 := by omega
               exact ⟨[], by simp⟩
  | n + 1, h => by
    rcases Nat.eq_or_lt_of_le h with rfl | h
    · exact ⟨[], by simp⟩
    · obtain ⟨r, hr⟩ := thoseN_split p i n (by omega)
      rw [thoseN_succ, hr]
      split
      · exact ⟨r ++ [(n : Int)], by simp⟩
      · exact ⟨r, rfl⟩
/-- The number 'i' stands where there are as many ahead of it. -/
theorem thoseN_here (p : Nat → Bool) {i n : Nat} (h : i < n) (hp : p i = true) : ∃ hl : (thoseN i p).length < (thoseN n p).length, (thoseN n p)[(thoseN i p).length] = (i : Int) := by
  obtain ⟨r, hr⟩ := thoseN_split p (i + 1) n h
  rw [thoseN_succ, if_pos hp] at hr
  have hl : (thoseN i p).length < (thoseN n p).length := by rw [hr]; simp
  refine ⟨hl, ?_⟩
  have : (thoseN n p)[(thoseN i p).length]? = some (i : Int) := by rw [hr]; simp
  rw [List.getElem?_eq_getElem hl] at this
  exact Option.some.inj this
theorem thoseN_count (p : Nat → Bool) (i : Nat) : ((thoseN (i + 1) p).length : Int) = if p i = true then ((thoseN i p).length : Int) + 1 else (thoseN i p).length := by
  rw [thoseN_succ]
  split <;> simp
theorem killN_once : ∀ (l : List Int) (k : Nat), l.Pairwise (fun a b => a < b) → killN l k = [] ∨ killN l k = [-1]
  | [], _, _ => .inl rfl
  | a :: r, k, hp => by
    rw [List.pairwise_cons] at hp
    by_cases e : a = (k : Int)
    · have h0 : r.filter (fun z => decide (z = (k : Int))) = [] := List.filter_eq_nil_iff.2 (fun z hz => by have := hp.1 z hz; simp; omega)
      right
      unfold killN
      rw [List.filter_cons_of_pos (by simpa using e), h0]; rfl
    · have := killN_once r k hp.2
      unfold killN at this ⊢
      rw [List.filter_cons_of_neg (by simpa using e)]; exact this
/-- What kills a seat rises, from -1 on, below the number of poles. -/
theorem byN_rise {V : Ven} (hk : V.kills.Pairwise (fun a b => a < b)) (k : Nat) : (byN V k).Pairwise (fun a b => a < b) ∧ ∀ z ∈ byN V k, -1 ≤ z ∧ z < (V.poles.length : Int) := by
  have h1 := thoseN_pairwise V.poles.length (poleN V k)
  have h2 : ∀ z ∈ thoseN V.poles.length (poleN V k), 0 ≤ z ∧ z < (V.poles.length : Int) := fun z hz => by
    obtain ⟨i, hi, _, rfl⟩ := (thoseN_mem _ _ z).1 hz; omega
  unfold byN
  rcases killN_once V.kills k hk with e | e
  · rw [e, List.nil_append]
    exact ⟨h1, fun z hz => by have := h2 z hz; omega⟩
  · rw [e]
    refine ⟨List.pairwise_append.2 ⟨by simp, h1, fun a ha b hb => ?_⟩, fun z hz => ?_⟩
    · simp at ha; have := h2 b hb; omega
    · rcases List.mem_append.1 hz with h | h
      · simp at h; omega
      · have := h2 z h; omega
/-- A venue in memory, its three rows its own; its poles not told of. -/
structure PRest (w0 : World) (B : Nat) (V : Ven) (az : Option Addr) (cs : Nat) (ak : Option Addr) (ck : Nat) (vp : Value) (W : World) : Prop where
  below : Below w0.heap.size w0 W
  ge : w0.heap.size ≤ B
  box : Box W B 26 #[.slice az V.seats.length cs, .int .i64 V.gap, .int .i64 V.radius, .slice ak V.kills.length ck, vp]
  so : W.ownsRow w0.heap.size 44 4 (.slice az V.seats.length cs) V.seats.length (V.seats.flatMap seatC)
  ko : W.ownsRow w0.heap.size 3 1 (.slice ak V.kills.length ck) V.kills.length (V.kills.flatMap intC)
section
variable {w0 : World} {B : Nat} {V : Ven} {az : Option Addr} {cs : Nat} {ak : Option Addr} {ck : Nat} {vp : Value} {W : World}
theorem PRest.next (h : PRest w0 B V az cs ak ck vp W) {W' : World} (hb : Below W.heap.size W W') : PRest w0 B V az cs ak ck vp W' :=
  ⟨h.below.trans (hb.mono h.below.size), h.ge, h.box.next hb, row_next h.so hb, row_next h.ko hb⟩
theorem PRest.grown (h : PRest w0 B V az cs ak ck vp W) {W' : World} {v : Value} {ps : List Pole} (hp : Poles w0.heap.size W v ps) (hg : W.grownBy W' v.ownBlock) : PRest w0 B V az cs ak ck vp W' :=
  ⟨Ven.grown_low h.below hp hg, h.ge, h.box.grown hg (h.box.not_row (by decide) hp), row_grown h.so hp (by decide) hg, row_grown h.ko hp (by decide) hg⟩
theorem PRest.stored (h : PRest w0 B V az cs ak ck vp W) (v : Value) : PRest w0 B V az cs ak ck v (W.setCell ⟨B, 4, none⟩ v) :=
  ⟨Below.setCell h.below (show w0.heap.size ≤ (⟨B, 4, none⟩ : Addr).block from h.ge) _, h.ge, h.box.set 4 v, row_setCell h.so h.box (by decide) 4 v, row_setCell h.ko h.box (by decide) 4 v⟩
theorem PRest.poles (h : PRest w0 B V az cs ak ck vp W) {v : Value} {ps : List Pole} (hp : Poles w0.heap.size W v ps) (u : Value) : Poles w0.heap.size (W.setCell ⟨B, 4, none⟩ u) v ps := row_setCell hp h.box (by decide) 4 u
theorem PRest.ven {ap : Option Addr} {cp : Nat} {ps : List Pole} (h : PRest w0 B V az cs ak ck (.slice ap ps.length cp) W) (hp : Poles w0.heap.size W (.slice ap ps.length cp) ps) : VenAt W az V.seats.length cs ak V.kills.length ck ap ps.length cp (withV V ps) :=
  ⟨row_sl seatC_len h.so, row_sl intC_len h.ko, hp.sl⟩
end
/-- A pole onto the row of poles: what is known, by what is done (27: the one pole; 28: all). -/
def PartG (base : Nat) (ps : List Pole) (p : Pole) (v0 : Value) (listed : Array Bool) (t : Array Value) (w : World) : Prop :=
  (listed.getD 28 false = false → Poles base w v0 ps) ∧
  (listed.getD 27 false = true → listed.getD 28 false = false → ∃ g, t[53]? = some (.slice (some ⟨g, 0, Option.none⟩) 1 1) ∧ Box w g 41 #[.int .i64 p.x, .int .i64 p.y, .int .i64 p.r]) ∧
  (listed.getD 28 false = true → ∃ v, t[54]? = some v ∧ Poles base w v (ps ++ [p]))
section
variable {base : Nat} {ps : List Pole} {p : Pole} {v0 : Value} {listed : Array Bool} {t : Array Value} {w : World}
theorem PartG.same (h : PartG base ps p v0 listed t w) {i d : Nat} (v : Value) (hls : i < listed.size) (hi : i ≠ 27 ∧ i ≠ 28) (hd : d ≠ 53 ∧ d ≠ 54) : PartG base ps p v0 (listed.setIfInBounds i true) (t.setIfInBounds d v) w := by
  unfold PartG at *
  rw [getD_set hls, getD_set hls, if_neg hi.1, if_neg hi.2, Array.getElem?_setIfInBounds_ne hd.1, Array.getElem?_setIfInBounds_ne hd.2]
  exact h
theorem PartG.lit (h : PartG base ps p v0 listed t w) (hls : 27 < listed.size) (hsz : t.size = 144) (n28 : listed.getD 28 false = false) :
    PartG base ps p v0 (listed.setIfInBounds 27 true) (t.setIfInBounds 53 (.slice (some ⟨w.heap.size, 0, Option.none⟩) 1 1)) (w.alloc (.cells #[.int .i64 p.x, .int .i64 p.y, .int .i64 p.r] 41)) := by
  obtain ⟨h0, _, _⟩ := h
  refine ⟨?_, ?_, ?_⟩
  · intro _; exact (h0 n28).next ((Below.refl _ w).alloc (Nat.le_refl _) _)
  · intro _ _; exact ⟨_, by simp [hsz], Box.fresh w _ _⟩
  · rw [getD_set hls, if_neg (by omega), n28]; intro h; cases h
theorem PartG.all (hls : 28 < listed.size) (hsz : t.size = 144) {v : Value} {w' : World} (hv : Poles base w' v (ps ++ [p])) : PartG base ps p v0 (listed.setIfInBounds 28 true) (t.setIfInBounds 54 v) w' := by
  refine ⟨?_, ?_, ?_⟩
  · rw [getD_set hls, if_pos rfl]; intro h; cases h
  · rw [getD_set hls, getD_set hls, if_pos rfl]; intro _ h; cases h
  · intro _; exact ⟨v, by simp [hsz], hv⟩
end
end Go.Proofs.Ytbmmjbklfheghaa.Kll
