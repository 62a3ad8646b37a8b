/- A venue moved as a whole, and one with a greater radius (no program in it). -/
import Derived.Test.YtgpkdjhllekihaaGNearP
import Derived.Test.YtgpkdjhllekihaaVMakeP
namespace Go.Proofs.Ytgpkdjhllekihaa.Geo
set_option linter.unusedVariables false
open Go.Proofs.Ytgpkdjhllekihaa.Ven (Seat Pole Ven coordB standsB mayB ltS ltS_iff seatB seatsB_iff MkOK distB)

def mvS (a b : Int) (s : Seat) : Seat := ⟨s.row, s.x + a, s.y - b, s.kind⟩
def mvV (a b : Int) (V : Ven) : Ven := { V with seats := V.seats.map (mvS a b) }
def moreV (m : Int) (V : Ven) : Ven := { V with radius := V.radius + m }
theorem near_mv (a b : Int) (s t : Seat) (r : Int) : nearS (mvS a b s) (mvS a b t) r = nearS s t r := by
  unfold nearS mvS sqI
  have e1 : s.x + a - (t.x + a) = s.x - t.x := by omega
  have e2 : s.y - b - (t.y - b) = s.y - t.y := by omega
  simp only [e1, e2]
theorem clash_mv (a b : Int) (l : List Seat) (r : Int) {i j : Nat} (hi : i < l.length) (hj : j < l.length) : clashL (l.map (mvS a b)) r i j = clashL l r i j := by
  unfold clashL
  rw [getElem!_pos (l.map (mvS a b)) i (by simpa using hi), getElem!_pos (l.map (mvS a b)) j (by simpa using hj), getElem!_pos l i hi, getElem!_pos l j hj, List.getElem_map, List.getElem_map, near_mv]
theorem clash_symm (l : List Seat) (r : Int) (i j : Nat) : clashL l r i j = clashL l r j i := by
  unfold clashL nearS
  rw [sqI_comm]
  by_cases h : i = j
  · subst h; rfl
  · rw [decide_eq_true h, decide_eq_true (show j ≠ i from fun e => h e.symm)]
theorem clash_more (l : List Seat) {r m : Int} (h0 : 0 ≤ r) (hm : 0 ≤ m) (i j : Nat) (h : clashL l r i j = true) : clashL l (r + m) i j = true := by
  unfold clashL at *
  simp only [Bool.and_eq_true] at h ⊢
  exact ⟨h.1, near_mono h0 (by omega) h.2⟩
theorem graphL_may {V : Ven} (h : mayB V = true) : graphL V = (List.range V.seats.length).map (fun i => thoseN V.seats.length (clashL V.seats V.radius i)) := by unfold graphL; rw [if_pos h]; rfl
theorem graph_len {V : Ven} (h : mayB V = true) : (graphL V).length = V.seats.length := by rw [graphL_may h]; simp
theorem graph_at {V : Ven} (h : mayB V = true) (i : Nat) (hi : i < (graphL V).length) : (graphL V)[i] = thoseN V.seats.length (clashL V.seats V.radius i) := by simp [graphL_may h]
theorem MkOK.may_mv {V : Ven} {row x : Int} (h : MkOK V row x) (hl : V.seats.length ≤ 30) {a b : Int} (ha : 0 ≤ a ∧ a < 1000) (hb : 0 ≤ b ∧ b < 1000) : mayB (mvV a b V) = true := by
  have hm := h.may (by omega)
  unfold mayB at hm ⊢
  simp only [Bool.and_eq_true] at hm ⊢
  have hs : Ven.seatsB (mvV a b V).seats = true := (seatsB_iff _).2 ⟨by show 1 ≤ (V.seats.map _).length; rw [List.length_map]; exact h.len, by show (V.seats.map _).length ≤ 4096; rw [List.length_map]; omega, fun s hs => by
    obtain ⟨t, ht, rfl⟩ := List.mem_map.1 hs
    have h1 := h.ok t ht
    have h2 := h.sm t ht
    unfold seatB standsB at h1
    simp only [Bool.and_eq_true] at h1
    unfold seatB standsB mvS
    simp only [Bool.and_eq_true]
    exact ⟨⟨h1.1.1, (coordB_iff _).2 (by omega), (coordB_iff _).2 (by omega)⟩, h1.2⟩, by
    show (V.seats.map (mvS a b)).Pairwise _
    rw [List.pairwise_map]
    refine h.rise.imp fun {s t} hst => ?_
    rw [ltS_iff] at hst ⊢
    unfold mvS
    simp only
    omega⟩
  have hk : (mvV a b V).seats.length = V.seats.length := by show (V.seats.map _).length = _; rw [List.length_map]
  exact ⟨⟨⟨⟨hs, hm.1.1.1.2⟩, hm.1.1.2⟩, by rw [hk]; exact hm.1.2⟩, hm.2⟩
theorem MkOK.may_more {V : Ven} {row x : Int} (h : MkOK V row x) (hl : V.seats.length ≤ 30) {m : Int} (h0 : 0 ≤ m) (h1 : m < 50) : mayB (moreV m V) = true := by
  have hm := h.may (by omega)
  have hr := h.rad
  unfold mayB at hm ⊢
  simp only [Bool.and_eq_true] at hm ⊢
  refine ⟨⟨⟨hm.1.1.1, ?_⟩, hm.1.2⟩, hm.2⟩
  show distB (V.radius + m) = true
  unfold distB
  rw [decide_eq_true (by omega), decide_eq_true (by omega)]; rfl
theorem graph_mv {V : Ven} (a b : Int) (h : mayB V = true) (h' : mayB (mvV a b V) = true) : graphL (mvV a b V) = graphL V := by
  have hk : (mvV a b V).seats.length = V.seats.length := by show (V.seats.map _).length = _; rw [List.length_map]
  rw [graphL_may h, graphL_may h', hk]
  refine List.map_congr_left fun i hi => thoseN_congr _ fun j hj => ?_
  exact clash_mv a b V.seats V.radius (List.mem_range.1 hi) hj
theorem graph_more {V : Ven} {m : Int} (h0 : 0 ≤ V.radius) (hm : 0 ≤ m) (h : mayB V = true) (h' : mayB (moreV m V) = true) (i : Nat) (hi : i < (graphL V).length) (hi' : i < (graphL (moreV m V)).length) : (graphL V)[i].length ≤ (graphL (moreV m V))[i].length := by
  rw [graph_at h, graph_at h', thoseN_filter V.seats.length (f := clashL V.seats V.radius i) (g := clashL V.seats (V.radius + m) i) (fun j _ hj => clash_more _ h0 hm i j hj)]
  exact List.length_filter_le _ _
/-- Who clashes, by number, does so the other way round, and with a greater radius. -/
theorem graph_in {V : Ven} {m : Int} (h0 : 0 ≤ V.radius) (hm0 : 0 ≤ m) (h : mayB V = true) (h' : mayB (moreV m V) = true) (i : Nat) (hi : i < (graphL V).length) (k : Nat) (hk : k < (graphL V)[i].length) :
    0 ≤ (graphL V)[i][k] ∧ (graphL V)[i][k] < (V.seats.length : Int) ∧ clashB V (graphL V)[i][k] i = true ∧ clashB (moreV m V) i (graphL V)[i][k] = true := by
  have hn : i < V.seats.length := by rw [← graph_len h]; exact hi
  have hmem : (graphL V)[i][k] ∈ thoseN V.seats.length (clashL V.seats V.radius i) := by rw [← graph_at h i hi]; exact List.getElem_mem hk
  obtain ⟨j, hj, hc, he⟩ := (thoseN_mem _ _ _).1 hmem
  rw [he]
  refine ⟨by omega, by omega, ?_, ?_⟩
  · unfold clashB
    rw [decide_eq_true (by omega), decide_eq_true (by omega), h]
    simp only [Int.toNat_natCast, Bool.true_and]
    rw [clash_symm]; exact hc
  · unfold clashB
    show (decide (0 ≤ (i : Int) ∧ (i : Int) < (V.seats.length : Int)) && (decide (0 ≤ (j : Int) ∧ (j : Int) < (V.seats.length : Int)) && (mayB (moreV m V) && clashL V.seats (V.radius + m) (i : Int).toNat (j : Int).toNat))) = true
    rw [decide_eq_true (by omega), decide_eq_true (by omega), h']
    simp only [Int.toNat_natCast, Bool.true_and]
    exact clash_more _ h0 hm0 i j hc
theorem mv_step (a b : Int) (l : List Seat) (k : Nat) (hk : k < l.length) : ((l.take k).map (mvS a b) ++ l.drop k).set k (mvS a b l[k]) = (l.take (k + 1)).map (mvS a b) ++ l.drop (k + 1) := by
  have h1 : ((l.take k).map (mvS a b)).length = k := by rw [List.length_map, List.length_take]; omega
  rw [List.set_append_right _ _ (by omega), h1, Nat.sub_self, List.drop_eq_getElem_cons hk, List.set_cons_zero, List.take_succ_eq_append_getElem hk, List.map_append]
  simp
theorem mv_at (a b : Int) (l : List Seat) (k : Nat) (hk : k < l.length) : ((l.take k).map (mvS a b) ++ l.drop k).set k l[k] = (l.take k).map (mvS a b) ++ l.drop k := by
  have h1 : ((l.take k).map (mvS a b)).length = k := by rw [List.length_map, List.length_take]; omega
  rw [List.set_append_right _ _ (by omega), h1, Nat.sub_self, List.drop_eq_getElem_cons hk, List.set_cons_zero]
theorem mv_len (a b : Int) (l : List Seat) (k : Nat) (hk : k ≤ l.length) : ((l.take k).map (mvS a b) ++ l.drop k).length = l.length := by
  rw [List.length_append, List.length_map, List.length_take, List.length_drop]; omega
end Go.Proofs.Ytgpkdjhllekihaa.Geo
