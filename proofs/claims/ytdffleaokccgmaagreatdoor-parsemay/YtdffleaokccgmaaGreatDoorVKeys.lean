/- Seats that stand at one place of one row; orders of seats where none do. -/
import Derived.Test.YtdffleaokccgmaaGreatDoorVOrd
namespace Go.Proofs.YtdffleaokccgmaaGreatDoor.Ven
set_option linter.unusedVariables false

def keyNe (a b : Seat) : Prop := ¬ (a.row = b.row ∧ a.x = b.x)
theorem keyNe_symm {a b : Seat} (h : keyNe a b) : keyNe b a := fun h' => h ⟨h'.1.symm, h'.2.symm⟩
theorem lt_keyNe {a b : Seat} (h : ltS a b = true) : keyNe a b := by rw [ltS_iff] at h; unfold keyNe; omega
theorem pick_perm {l : List Seat} {ord : List Nat} (h : IsOrder l ord) : (pick l ord).Perm l := by
  have e : (List.range l.length).map (fun i => l[i]!) = l := by
    apply List.ext_getElem
    · simp
    · intro i h1 h2
      simp only [List.getElem_map, List.getElem_range]
      exact getElem!_pos l i h2
  have := h.perm.map (fun i => l[i]!)
  rw [e] at this
  exact this
theorem pick_sorted {l : List Seat} {ord : List Nat} (h : IsOrder l ord) : (pick l ord).Pairwise (fun a b => ltS b a = false) := by
  unfold pick; rw [List.pairwise_map]; exact h.sorted
/-- Where no two stand at one place, an order rises. -/
theorem pick_rising {l : List Seat} {ord : List Nat} (h : IsOrder l ord) (hk : l.Pairwise keyNe) : (pick l ord).Pairwise (fun a b => ltS a b = true) := by
  have h1 := (pick_perm h).symm.pairwise hk (fun hab => keyNe_symm hab)
  have h2 := pick_sorted h
  exact (h1.and h2).imp fun {a b} ⟨p, q⟩ => by
    rw [ltS_iff]
    have : ¬ ltS b a = true := by rw [q]; simp
    rw [ltS_iff] at this
    unfold keyNe at p
    omega
theorem rising_keys {l : List Seat} (h : l.Pairwise (fun a b => ltS a b = true)) : l.Pairwise keyNe := h.imp fun h => lt_keyNe h
theorem not_rising {l : List Seat} {ord : List Nat} (h : IsOrder l ord) (hk : ¬ l.Pairwise keyNe) : ¬ (pick l ord).Pairwise (fun a b => ltS a b = true) := fun hr =>
  hk ((pick_perm h).pairwise (rising_keys hr) (fun hab => keyNe_symm hab))
end Go.Proofs.YtdffleaokccgmaaGreatDoor.Ven
