/- parterrelaw3.Make of whatever numbers. -/
import Derived.Test.YtbmmjbklfheghaaVMake
namespace Go.Proofs.Ytbmmjbklfheghaa.Ven
set_option linter.unusedVariables false
set_option maxRecDepth 100000
open Go.RowKit Go.Shelf

/-- Numbers that came in. -/
def IntsAt (w : World) (a : Option Addr) (len cap : Nat) (l : List Int) : Prop :=
  l.length = len ∧ len ≤ maxLen ∧ (len = 0 ∨ ∃ b off, a = some ⟨b, off, none⟩ ∧ Cells 1 intC w b off l)
set_option maxRecDepth 100000 in
set_option maxHeartbeats 2000000 in
theorem make_own_zero (a : Option Addr) (cap : Nat) (most : Nat) (h2 : most ≤ 30) (h1 : 1 ≤ most) (w : World) :
    Calls Try.prog 16 #[.slice a 0 cap, .int .i64 most] w fun e w' => MadeO w most e w' := by
  have hst := mst_start w
  go_enter Try.func16, Try.ntmps16
  go_wp2_with fail
  go_loopg [6, 7, 8, 9, 10] 0 (fun g s6 s7 s8 s9 s10 wr => s6 = .int .i64 0 ∧ s7 = .int .i64 0 ∧ s8 = .int .i64 0 ∧ MSt w wr (some ⟨w.heap.size + 1, 0, none⟩) 1 none 0 none 0 ⟨[⟨0, 0, 0, 0⟩], 10, 0, [], []⟩)
  case atStart => exact ⟨rfl, rfl, rfl, hst⟩
  case round =>
    clear hst
    obtain ⟨rfl, rfl, rfl, st⟩ := hrel
    obtain ⟨y0', y1, y2, y3, y4⟩ := st.b5.five
    obtain ⟨z0, z1, z2, z3, z4⟩ := st.b4.five
    have zl := st.b4.lt
    have yl := st.b5.lt
    have zf0 := st.b4.frozen 0
    have zf1 := st.b4.frozen 1
    have zf2 := st.b4.frozen 2
    have zf3 := st.b4.frozen 3
    have zf4 := st.b4.frozen 4
    simp only [List.length_cons, List.length_nil] at y0' y3 y4
    go_wp2_with fail
    refine bodyPost_ret (v := venV (some ⟨w.heap.size + 1, 0, none⟩) 1 1 10 0 none 0 0 none 0 0) (by simp [results, Try.results16, go_sem, z0, z1, z2, z3, z4]) rfl ⟨⟨[⟨0, 0, 0, 0⟩], 10, 0, [], []⟩, some ⟨w.heap.size + 1, 0, none⟩, 1, none, 0, none, 0, 0, 0, rfl, ?_, mk_start, h1, ?_, row_set5 st.b4 (by decide) st.so _ _ _ _ _, row_set5 st.b4 (by decide) st.po _ _ _ _ _, row_set5 st.b4 (by decide) st.ko _ _ _ _ _⟩
    · exact ⟨row_sl seatC_len (row_set5 st.b4 (by decide) st.so _ _ _ _ _), row_sl intC_len (row_set5 st.b4 (by decide) st.ko _ _ _ _ _), row_sl poleC_len (row_set5 st.b4 (by decide) st.po _ _ _ _ _)⟩
    · exact Below.setCell (Below.setCell (Below.setCell (Below.setCell (Below.setCell st.below (Nat.le_refl _) _) (Nat.le_refl _) _) (Nat.le_refl _) _) (Nat.le_refl _) _) (Nat.le_refl _) _
theorem make_own (a : Option Addr) (len cap : Nat) (l : List Int) (most : Nat) (h2 : most ≤ 30) (h1 : 1 ≤ most) (w : World) (h : IntsAt w a len cap l) :
    Calls Try.prog 16 #[.slice a len cap, .int .i64 most] w fun e w' => MadeO w most e w' := by
  obtain ⟨hl, hm, h0 | ⟨b, off, rfl, hC⟩⟩ := h
  · subst h0; exact make_own_zero a cap most h2 h1 w
  · subst hl; exact make_own_some l b off cap most h2 h1 hm w hC
theorem make_any (a : Option Addr) (len cap : Nat) (l : List Int) (most : Nat) (h2 : most ≤ 30) (h1 : 1 ≤ most) (w : World) (h : IntsAt w a len cap l) :
    Calls Try.prog 16 #[.slice a len cap, .int .i64 most] w fun e w' => Made w most e w' :=
  (make_own a len cap l most h2 h1 w h).mono fun _ _ h => h.made
end Go.Proofs.Ytbmmjbklfheghaa.Ven
