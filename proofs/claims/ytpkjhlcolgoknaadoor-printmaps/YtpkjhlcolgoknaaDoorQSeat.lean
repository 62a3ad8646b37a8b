/- print.Seat by its contract: a seat's line. -/
import Derived.Test.YtpkjhlcolgoknaaDoorQSeatR
namespace Go.Proofs.YtpkjhlcolgoknaaDoor.Prn
set_option linter.unusedVariables false
set_option maxRecDepth 100000
open Go.RowKit Go.Shelf
open Go.Proofs.YtpkjhlcolgoknaaDoor.Ven (Seat Box putAll)

set_option maxHeartbeats 1000000 in
/-- print.Seat: a seat's line. -/
theorem seat_any (s : Seat) (h0 : I64 s.row) (h1 : I64 s.x) (h2 : I64 s.y) (w : World) (hp : Pow w) :
    Calls Tryd.prog 10 #[.agg #[.int .i64 s.row, .int .i64 s.x, .int .i64 s.y, .int .i64 s.kind]] w fun e w' => e = .returned (.string ⟨(seatL s).toArray⟩) ∧ Below w.heap.size w w' := by
  obtain ⟨r, x, y, k⟩ := s
  simp only at h0 h1 h2
  unfold seatL
  simp only []
  have hb0 := Ven.below_alloc w (.cells #[.int .i64 r, .int .i64 x, .int .i64 y, .int .i64 k] 28)
  have hG := Box.fresh w 28 #[.int .i64 r, .int .i64 x, .int .i64 y, .int .i64 k]
  have HB : Hid (Below w.heap.size w (w.alloc (.cells #[.int .i64 r, .int .i64 x, .int .i64 y, .int .i64 k] 28))) := hb0
  have HG : Hid (Box (w.alloc (.cells #[.int .i64 r, .int .i64 x, .int .i64 y, .int .i64 k] 28)) w.heap.size 28 #[.int .i64 r, .int .i64 x, .int .i64 y, .int .i64 k]) := hG
  have HP : Hid (Pow (w.alloc (.cells #[.int .i64 r, .int .i64 x, .int .i64 y, .int .i64 k] 28))) := Pow.next hp hb0
  have HN : Hid (∀ n ∈ [r, x, y], I64 n) := by intro n hn; simp at hn; rcases hn with rfl | rfl | rfl <;> assumption
  clear hb0 hG hp h0 h1 h2
  go_enter Tryd.func10, Tryd.ntmps10
  go_wp2_with fail
  refine seat_region _ _ rfl w.heap.size rfl r x y k (factL (wordL k) [r, x, y]) HG.out ?_ ?_
  · refine fact_any (wordL k) (by have := wordL_len k; omega) [r, x, y] HN.out (by simp) _ 0 3 _ ?_ (HP.out.next ?_)
    · refine Ven.Box.cells (k := 1) (enc := Ven.intC) (fun _ => rfl) (Box.fresh _ _ _) rfl
    · exact below_drew_alloc _ _
  · intro w' hb
    have HX : Hid (Below w.heap.size w w') := HB.out.trans (hb.mono HB.out.size)
    clear hb HB HG HP HN
    generalize factL (wordL k) [r, x, y] = T
    simp only [putAll]
    go_wp2
    go_ret
    refine ⟨?_, HX.out⟩
    kernel_rfl
end Go.Proofs.YtpkjhlcolgoknaaDoor.Prn
