/- A region that draws its order, by an invariant: one step an operation, whatever is done so far. -/
import Derived.Test.YtbmmjbklfheghaaVCmp
import Derived.RegionTactic
namespace Go.Proofs.Ytbmmjbklfheghaa.Ven
set_option linter.unusedVariables false
set_option maxRecDepth 100000
open Go.RowKit

def depsOf (md : Region.Mode) (ops : Array Oper) (i : Nat) : List Nat := ((ops[i]?).map fun o => (o.after.toList.filter (Region.binds md)).map (·.on)).getD []
theorem ready_mem {md : Region.Mode} {ops : Array Oper} {listed : Array Bool} {i : Nat} (h : i ∈ Region.ready md ops listed) : i < ops.size ∧ listed.getD i true = false ∧ ∀ d ∈ depsOf md ops i, listed.getD d false = true := by
  unfold Region.ready at h
  rw [List.mem_filter, List.mem_range, Bool.and_eq_true] at h
  obtain ⟨h1, h2, h3⟩ := h
  refine ⟨h1, by simpa using h2, fun d hd => ?_⟩
  unfold depsOf at hd
  rw [Array.getElem?_eq_getElem h1] at h3 hd
  simp only [Option.map_some, Option.getD_some] at h3 hd
  obtain ⟨e, he, rfl⟩ := List.mem_map.1 hd
  obtain ⟨he1, he2⟩ := List.mem_filter.1 he
  have := Array.all_eq_true'.1 h3 e (by simpa using he1)
  simpa [he2] using this
theorem ready_of {md : Region.Mode} {ops : Array Oper} {listed : Array Bool} {i : Nat} (h1 : i < ops.size) (h2 : listed.getD i true = false) (h3 : ∀ d ∈ depsOf md ops i, listed.getD d false = true) : i ∈ Region.ready md ops listed := by
  unfold Region.ready
  rw [List.mem_filter, List.mem_range, Bool.and_eq_true]
  refine ⟨h1, by simpa using h2, ?_⟩
  unfold depsOf at h3
  rw [Array.getElem?_eq_getElem h1] at h3 ⊢
  simp only [Option.map_some, Option.getD_some] at h3 ⊢
  rw [Array.all_eq_true']
  intro e he
  cases hb : Region.binds md e with
  | false => rfl
  | true =>
    have := h3 e.on (List.mem_map.2 ⟨e, List.mem_filter.2 ⟨by simpa using he, hb⟩, rfl⟩)
    simpa using this
/-- Where nothing is ready all is done. -/
theorem all_listed {md : Region.Mode} {ops : Array Oper} (hlt : (List.range ops.size).all (fun i => (depsOf md ops i).all (fun d => d < i)) = true) {listed : Array Bool} (hs : listed.size = ops.size) (hr : Region.ready md ops listed = []) : ∀ i, i < ops.size → listed.getD i false = true := by
  intro i
  induction i using Nat.strongRecOn with
  | _ i ih =>
    intro hi
    have hd : ∀ d ∈ depsOf md ops i, listed.getD d false = true := by
      intro d hd
      have h1 := List.all_eq_true.1 hlt i (List.mem_range.2 hi)
      have h2 := of_decide_eq_true (List.all_eq_true.1 h1 d hd)
      exact ih d h2 (by omega)
    cases h : listed.getD i true with
    | true =>
      have hi' : i < listed.size := by omega
      simp only [Array.getD_eq_getD_getElem?, Array.getElem?_eq_getElem hi', Option.getD_some] at h ⊢
      exact h
    | false =>
      have := ready_of hi h hd
      rw [hr] at this; cases this
theorem countP_lt {α : Type} {p q : α → Bool} : ∀ (l : List α), (∀ x ∈ l, q x = true → p x = true) → (∃ x ∈ l, p x = true ∧ q x = false) → l.countP q < l.countP p
  | [], _, h => by obtain ⟨_, hx, _⟩ := h; cases hx
  | y :: r, h1, h2 => by
    have hle : r.countP q ≤ r.countP p := List.countP_mono_left fun x hx h => h1 x (List.mem_cons_of_mem _ hx) h
    rw [List.countP_cons, List.countP_cons]
    obtain ⟨x, hx, hp, hq⟩ := h2
    rcases List.mem_cons.1 hx with rfl | hx
    · simp [hp, hq]; omega
    · have := countP_lt r (fun x hx h => h1 x (List.mem_cons_of_mem _ hx) h) ⟨x, hx, hp, hq⟩
      cases hqy : q y with
      | false => simp; split <;> omega
      | true => rw [h1 y List.mem_cons_self hqy]; simp; omega
def leftN (n : Nat) (listed : Array Bool) : Nat := (List.range n).countP fun j => !listed.getD j true
theorem listed_set {listed : Array Bool} {i j : Nat} (h : (listed.setIfInBounds i true).getD j false = true) (hne : j ≠ i) : listed.getD j false = true := by
  simp only [Array.getD_eq_getD_getElem?, Array.getElem?_setIfInBounds] at h ⊢
  rw [if_neg (fun e => hne e.symm)] at h
  exact h
theorem getD_set {listed : Array Bool} {i : Nat} (hi : i < listed.size) (j : Nat) : (listed.setIfInBounds i true).getD j false = if i = j then true else listed.getD j false := by
  simp only [Array.getD_eq_getD_getElem?, Array.getElem?_setIfInBounds]
  split
  · rename_i h; subst h; simp
  · rfl
theorem set_keeps {listed : Array Bool} {i j : Nat} (h : listed.getD j false = true) : (listed.setIfInBounds i true).getD j false = true := by
  simp only [Array.getD_eq_getD_getElem?, Array.getElem?_setIfInBounds] at h ⊢
  split
  · rename_i e; subst e
    split
    · rfl
    · rename_i hlt; rw [Array.getElem?_eq_none (by omega)] at h; simp at h
  · exact h
theorem eval_of {a : Act} {k : Nat} {v : Value} (h : a.tmps[k]? = some v) : a.eval (.tmp k) = v := by
  show a.tmps.getD k undef = v
  rw [Array.getD_eq_getD_getElem?, h]; rfl
theorem slot_of {a : Act} {k : Nat} (h : k < a.tmps.size) : ∃ v, a.tmps[k]? = some v := ⟨_, Array.getElem?_eq_getElem h⟩
theorem wpAny_inv {P : Program} {md : Region.Mode} {ops : Array Oper} {Q : Exit → Act → World → Prop} (Inv : Array Bool → Act → World → Prop)
    (hlt : (List.range ops.size).all (fun i => (depsOf md ops i).all (fun d => d < i)) = true)
    (hstep : ∀ listed a w i, listed.size = ops.size → i < ops.size → listed.getD i false = false → (∀ d ∈ depsOf md ops i, listed.getD d false = true) → (∀ i d, listed.getD i false = true → d ∈ depsOf md ops i → listed.getD d false = true) → Inv listed a w → wpOp P ops Q i (Inv (listed.setIfInBounds i true)) a w)
    (hfin : ∀ listed a w, (∀ i, i < ops.size → listed.getD i false = true) → Inv listed a w → Q .normal a w) :
    ∀ (fuel : Nat) (listed : Array Bool) (a : Act) (w : World), listed.size = ops.size → leftN ops.size listed ≤ fuel → (∀ i d, listed.getD i false = true → d ∈ depsOf md ops i → listed.getD d false = true) → Inv listed a w → wpAny P md ops Q fuel listed a w
  | 0, listed, a, w, hs, hc, hcl, hI => by
    have hr : Region.ready md ops listed = [] := by
      cases h : Region.ready md ops listed with
      | nil => rfl
      | cons i r =>
        have hi : i ∈ Region.ready md ops listed := by rw [h]; exact List.mem_cons_self
        obtain ⟨h1, h2, _⟩ := ready_mem hi
        have : 0 < leftN ops.size listed := List.countP_pos_iff.2 ⟨i, List.mem_range.2 h1, by simp [h2]⟩
        omega
    exact ⟨hr, hfin listed a w (all_listed hlt hs hr) hI⟩
  | fuel + 1, listed, a, w, hs, hc, hcl, hI => by
    refine ⟨fun hr => hfin listed a w (all_listed hlt hs hr) hI, fun i hi => ?_⟩
    obtain ⟨h1, h2, h3⟩ := ready_mem hi
    have h2' : listed.getD i false = false := by
      simp only [Array.getD_eq_getD_getElem?, Array.getElem?_eq_getElem (show i < listed.size by omega), Option.getD_some] at h2 ⊢
      exact h2
    refine wpOp_mono (fun a' w' h => ?_) (hstep listed a w i hs h1 h2' h3 hcl hI)
    refine wpAny_inv Inv hlt hstep hfin fuel _ a' w' (by simpa using hs) ?_ ?_ h
    rotate_left
    · intro j d hj hd
      by_cases hji : j = i
      · subst hji; exact set_keeps (h3 d hd)
      · exact set_keeps (hcl j d (listed_set hj hji) hd)
    have hlt2 : leftN ops.size (listed.setIfInBounds i true) < leftN ops.size listed := by
      refine countP_lt _ (fun x hx hq => ?_) ⟨i, List.mem_range.2 h1, by simp [h2], ?_⟩
      · simp only [Bool.not_eq_true', Array.getD_eq_getD_getElem?, Array.getElem?_setIfInBounds] at hq ⊢
        split at hq
        · split at hq <;> simp_all
        · exact hq
      · simp [Array.getD_eq_getD_getElem?, show i < listed.size by omega]
    omega
theorem wp_region_inv {P : Program} {id : Nat} {ops : Array Oper} {Q : Exit → Act → World → Prop} {a : Act} {w : World} (hm : P.follows .mixedOrders = true) (Inv : Array Bool → Act → World → Prop)
    (hlt : (List.range ops.size).all (fun i => (depsOf .any ops i).all (fun d => d < i)) = true)
    (h0 : Inv (Array.replicate ops.size false) a w.drew)
    (hstep : ∀ listed a w i, listed.size = ops.size → i < ops.size → listed.getD i false = false → (∀ d ∈ depsOf .any ops i, listed.getD d false = true) → (∀ i d, listed.getD i false = true → d ∈ depsOf .any ops i → listed.getD d false = true) → Inv listed a w → wpOp P ops Q i (Inv (listed.setIfInBounds i true)) a w)
    (hfin : ∀ listed a w, (∀ i, i < ops.size → listed.getD i false = true) → Inv listed a w → Q .normal a w) : (Code.region id ops true).wp P Q a w := by
  refine wp_region_any hm ?_
  refine wpAny_inv Inv hlt hstep hfin _ _ _ _ (by simp) ?_ (fun i d h => by
    simp only [Array.getD_eq_getD_getElem?, Array.getElem?_replicate] at h
    split at h <;> simp at h) h0
  have : leftN ops.size (Array.replicate ops.size false) ≤ (List.range ops.size).length := List.countP_le_length
  simpa using this
/-- Slots that hold what they must once their operation is done; all but these slots are as they were. -/
structure Slots (a0 : Act) (dst : List (Option Nat)) (vals : List (Option Value)) (listed : Array Bool) (a : Act) : Prop where
  size : a.tmps.size = a0.tmps.size
  defers : a.defers = a0.defers
  keep : ∀ k, some k ∉ dst → a.tmps[k]? = a0.tmps[k]?
  val : ∀ i d v, listed.getD i false = true → dst[i]? = some (some d) → vals[i]? = some (some v) → a.tmps[d]? = some v
theorem Slots.start (a0 : Act) (dst : List (Option Nat)) (vals : List (Option Value)) (n : Nat) : Slots a0 dst vals (Array.replicate n false) a0 :=
  ⟨rfl, rfl, fun _ _ => rfl, fun i d v h => by
    simp only [Array.getD_eq_getD_getElem?, Array.getElem?_replicate] at h
    split at h <;> simp at h⟩
/-- An operation that writes its slot. -/
theorem Slots.put {a0 a : Act} {dst : List (Option Nat)} {vals : List (Option Value)} {listed : Array Bool} (h : Slots a0 dst vals listed a) (hn : dst.Pairwise (fun x y => x = none ∨ x ≠ y)) (i d : Nat) (v : Value) (hd : dst[i]? = some (some d)) (hb : d < a0.tmps.size) (hv : ∀ u, vals[i]? = some (some u) → u = v) :
    Slots a0 dst vals (listed.setIfInBounds i true) { tmps := a.tmps.setIfInBounds d v, defers := a.defers } := by
  have inj : ∀ j, dst[j]? = some (some d) → j = i := by
    intro j hj
    obtain ⟨hi1, hi2⟩ := List.getElem?_eq_some_iff.1 hd
    obtain ⟨hj1, hj2⟩ := List.getElem?_eq_some_iff.1 hj
    rw [List.pairwise_iff_getElem] at hn
    rcases Nat.lt_trichotomy i j with hl | hl | hl
    · rcases hn i j hi1 hj1 hl with h' | h'
      · rw [hi2] at h'; cases h'
      · rw [hi2, hj2] at h'; exact absurd rfl h'
    · exact hl.symm
    · rcases hn j i hj1 hi1 hl with h' | h'
      · rw [hj2] at h'; cases h'
      · rw [hi2, hj2] at h'; exact absurd rfl h'
  refine ⟨by simpa using h.size, h.defers, fun k hk => ?_, fun j d' u hj hdj huj => ?_⟩
  · have hne : ¬ d = k := fun e => hk (by rw [← e]; exact List.mem_of_getElem? hd)
    simp only [Array.getElem?_setIfInBounds]
    rw [if_neg hne]; exact h.keep k hk
  · simp only [Array.getElem?_setIfInBounds]
    by_cases e : d = d'
    · subst e
      have := inj j hdj
      subst this
      rw [if_pos rfl, if_pos (by rw [h.size]; exact hb), hv u huj]
    · rw [if_neg e]
      have hji : j ≠ i := by
        rintro rfl
        rw [hd] at hdj; injection hdj with hdj; injection hdj with hdj; exact e hdj
      exact h.val j d' u (listed_set hj hji) hdj huj
/-- An operation that writes its slot with the value that it must hold. -/
theorem Slots.pv {a0 a : Act} {dst : List (Option Nat)} {vals : List (Option Value)} {listed : Array Bool} (h : Slots a0 dst vals listed a) (hn : dst.Pairwise (fun x y => x = none ∨ x ≠ y)) (i d : Nat) {v : Value} (hd : dst[i]? = some (some d)) (hb : d < a0.tmps.size) (hv : vals[i]? = some (some v)) :
    Slots a0 dst vals (listed.setIfInBounds i true) { tmps := a.tmps.setIfInBounds d v, defers := a.defers } := h.put hn i d v hd hb (fun u hu => by rw [hv] at hu; injection hu with hu; injection hu with hu; exact hu.symm)
/-- An operation that writes no slot. -/
theorem Slots.skip {a0 a : Act} {dst : List (Option Nat)} {vals : List (Option Value)} {listed : Array Bool} (h : Slots a0 dst vals listed a) (i : Nat) (hd : dst[i]? = some none) : Slots a0 dst vals (listed.setIfInBounds i true) a :=
  ⟨h.size, h.defers, h.keep, fun j d v hj hdj hvj => h.val j d v (listed_set hj (by rintro rfl; rw [hd] at hdj; cases hdj)) hdj hvj⟩
def putAll (t : Array Value) : List (Nat × Value) → Array Value
  | [] => t
  | (d, v) :: r => putAll (t.setIfInBounds d v) r
theorem putAll_size : ∀ (l : List (Nat × Value)) (t : Array Value), (putAll t l).size = t.size
  | [], _ => rfl
  | (d, v) :: r, t => by unfold putAll; rw [putAll_size r]; simp
theorem putAll_other : ∀ (l : List (Nat × Value)) (t : Array Value) (k : Nat), (∀ p ∈ l, p.1 ≠ k) → (putAll t l)[k]? = t[k]?
  | [], _, _, _ => rfl
  | (d, v) :: r, t, k, h => by
    unfold putAll
    rw [putAll_other r _ k (fun p hp => h p (List.mem_cons_of_mem _ hp)), Array.getElem?_setIfInBounds, if_neg (h (d, v) List.mem_cons_self)]
theorem putAll_at : ∀ (l : List (Nat × Value)) (t : Array Value), (l.map (·.1)).Pairwise (fun x y => x ≠ y) → ∀ p ∈ l, p.1 < t.size → (putAll t l)[p.1]? = some p.2
  | (d, v) :: r, t, hn, p, hp, hlt => by
    rw [List.map_cons, List.pairwise_cons] at hn
    unfold putAll
    rcases List.mem_cons.1 hp with rfl | hp
    · rw [putAll_other r _ _ (fun q hq e => hn.1 q.1 (List.mem_map.2 ⟨q, hq, rfl⟩) e.symm), Array.getElem?_setIfInBounds, if_pos rfl, if_pos hlt]
    · exact putAll_at r _ hn.2 p hp (by simpa using hlt)
/-- The frame, written out. -/
theorem frame_eq {a0 a : Act} (l : List (Nat × Value)) (hs : a.tmps.size = a0.tmps.size) (hd : a.defers = a0.defers) (hn : (l.map (·.1)).Pairwise (fun x y => x ≠ y)) (hb : ∀ p ∈ l, p.1 < a0.tmps.size) (hk : ∀ k, (∀ p ∈ l, p.1 ≠ k) → a.tmps[k]? = a0.tmps[k]?) (hv : ∀ p ∈ l, a.tmps[p.1]? = some p.2) : a = { tmps := putAll a0.tmps l, defers := a0.defers } := by
  have : a.tmps = putAll a0.tmps l := by
    refine Array.ext_getElem? fun k => ?_
    by_cases h : ∃ p ∈ l, p.1 = k
    · obtain ⟨p, hp, rfl⟩ := h
      rw [hv p hp, putAll_at l a0.tmps hn p hp (hb p hp)]
    · have h' : ∀ p ∈ l, p.1 ≠ k := fun p hp e => h ⟨p, hp, e⟩
      rw [hk k h', putAll_other l _ k h']
  cases a; simp_all
theorem Slots.frame {a0 a : Act} {dst : List (Option Nat)} {vals : List (Option Value)} {listed : Array Bool} (h : Slots a0 dst vals listed a) (l : List (Nat × Value)) (hm : l.map (·.1) = dst.filterMap id) (hn : (l.map (·.1)).Pairwise (fun x y => x ≠ y)) (hb : (l.map (·.1)).all (fun d => decide (d < a0.tmps.size)) = true) (hv : ∀ p ∈ l, a.tmps[p.1]? = some p.2) : a = { tmps := putAll a0.tmps l, defers := a0.defers } := by
  refine frame_eq l h.size h.defers hn (fun p hp => of_decide_eq_true (List.all_eq_true.1 hb p.1 (List.mem_map.2 ⟨p, hp, rfl⟩))) (fun k hk => h.keep k fun hc => ?_) hv
  have : k ∈ l.map (·.1) := by rw [hm]; exact List.mem_filterMap.2 ⟨some k, hc, rfl⟩
  obtain ⟨p, hp, e⟩ := List.mem_map.1 this
  exact hk p hp e
theorem start_false (n j : Nat) : (Array.replicate n false).getD j false = false := by
  simp only [Array.getD_eq_getD_getElem?, Array.getElem?_replicate]
  split <;> rfl
end Go.Proofs.Ytbmmjbklfheghaa.Ven
