/- VenueEdges: its walk. -/
import Derived.Test.YtoaapngfbidllaaEdgeA
import Derived.Test.YtoaapngfbidllaaEdgeB
import Derived.Test.YtoaapngfbidllaaEdgeC
import Derived.Test.YtoaapngfbidllaaEdgeD
namespace Go.Proofs.Ytoaapngfbidllaa
set_option linter.unusedVariables false
open Go.RowKit Go.Shelf

theorem ew_0_0 : wrongL ⟨[⟨0, 0, 0, 0⟩], 1, 0, [0], [⟨0, 0, 1⟩]⟩ = [] := by decide
theorem ew_0_1 : wrongL ⟨[⟨999, 0, 0, 0⟩], 1, 0, [0], [⟨0, 0, 1⟩]⟩ = [] := by decide
theorem ew_0_2 : wrongL ⟨[⟨(-1), 0, 0, 0⟩], 1, 0, [0], [⟨0, 0, 1⟩]⟩ = [115, 101, 97, 116, 115] := by decide
theorem ew_0_3 : wrongL ⟨[⟨1000, 0, 0, 0⟩], 1, 0, [0], [⟨0, 0, 1⟩]⟩ = [115, 101, 97, 116, 115] := by decide
theorem ew_1_0 : wrongL ⟨[⟨0, (-1048576), 0, 0⟩], 1, 0, [0], [⟨0, 0, 1⟩]⟩ = [] := by decide
theorem ew_1_1 : wrongL ⟨[⟨0, 1048576, 0, 0⟩], 1, 0, [0], [⟨0, 0, 1⟩]⟩ = [] := by decide
theorem ew_1_2 : wrongL ⟨[⟨0, (-1048577), 0, 0⟩], 1, 0, [0], [⟨0, 0, 1⟩]⟩ = [115, 101, 97, 116, 115] := by decide
theorem ew_1_3 : wrongL ⟨[⟨0, 1048577, 0, 0⟩], 1, 0, [0], [⟨0, 0, 1⟩]⟩ = [115, 101, 97, 116, 115] := by decide
theorem ew_2_0 : wrongL ⟨[⟨0, 0, (-1048576), 0⟩], 1, 0, [0], [⟨0, 0, 1⟩]⟩ = [] := by decide
theorem ew_2_1 : wrongL ⟨[⟨0, 0, 1048576, 0⟩], 1, 0, [0], [⟨0, 0, 1⟩]⟩ = [] := by decide
theorem ew_2_2 : wrongL ⟨[⟨0, 0, (-1048577), 0⟩], 1, 0, [0], [⟨0, 0, 1⟩]⟩ = [115, 101, 97, 116, 115] := by decide
theorem ew_2_3 : wrongL ⟨[⟨0, 0, 1048577, 0⟩], 1, 0, [0], [⟨0, 0, 1⟩]⟩ = [115, 101, 97, 116, 115] := by decide
theorem ew_3_0 : wrongL ⟨[⟨0, 0, 0, 0⟩], 1, 0, [0], [⟨0, 0, 1⟩]⟩ = [] := by decide
theorem ew_3_1 : wrongL ⟨[⟨0, 0, 0, 2⟩], 1, 0, [0], [⟨0, 0, 1⟩]⟩ = [] := by decide
theorem ew_3_2 : wrongL ⟨[⟨0, 0, 0, (-1)⟩], 1, 0, [0], [⟨0, 0, 1⟩]⟩ = [115, 101, 97, 116, 115] := by decide
theorem ew_3_3 : wrongL ⟨[⟨0, 0, 0, 3⟩], 1, 0, [0], [⟨0, 0, 1⟩]⟩ = [115, 101, 97, 116, 115] := by decide
theorem ew_4_0 : wrongL ⟨[⟨0, 0, 0, 0⟩], 1, 0, [0], [⟨0, 0, 1⟩]⟩ = [] := by decide
theorem ew_4_1 : wrongL ⟨[⟨0, 0, 0, 0⟩], 1048576, 0, [0], [⟨0, 0, 1⟩]⟩ = [] := by decide
theorem ew_4_2 : wrongL ⟨[⟨0, 0, 0, 0⟩], 0, 0, [0], [⟨0, 0, 1⟩]⟩ = [103, 97, 112] := by decide
theorem ew_4_3 : wrongL ⟨[⟨0, 0, 0, 0⟩], 1048577, 0, [0], [⟨0, 0, 1⟩]⟩ = [103, 97, 112] := by decide
theorem ew_5_0 : wrongL ⟨[⟨0, 0, 0, 0⟩], 1, 0, [0], [⟨0, 0, 1⟩]⟩ = [] := by decide
theorem ew_5_1 : wrongL ⟨[⟨0, 0, 0, 0⟩], 1, 1048576, [0], [⟨0, 0, 1⟩]⟩ = [] := by decide
theorem ew_5_2 : wrongL ⟨[⟨0, 0, 0, 0⟩], 1, (-1), [0], [⟨0, 0, 1⟩]⟩ = [114, 97, 100, 105, 117, 115] := by decide
theorem ew_5_3 : wrongL ⟨[⟨0, 0, 0, 0⟩], 1, 1048577, [0], [⟨0, 0, 1⟩]⟩ = [114, 97, 100, 105, 117, 115] := by decide
theorem ew_6_0 : wrongL ⟨[⟨0, 0, 0, 0⟩], 1, 0, [0], [⟨0, 0, 1⟩]⟩ = [] := by decide
theorem ew_6_1 : wrongL ⟨[⟨0, 0, 0, 0⟩], 1, 0, [0], [⟨0, 0, 1⟩]⟩ = [] := by decide
theorem ew_6_2 : wrongL ⟨[⟨0, 0, 0, 0⟩], 1, 0, [(-1)], [⟨0, 0, 1⟩]⟩ = [107, 105, 108, 108, 115] := by decide
theorem ew_6_3 : wrongL ⟨[⟨0, 0, 0, 0⟩], 1, 0, [1], [⟨0, 0, 1⟩]⟩ = [107, 105, 108, 108, 115] := by decide
theorem ew_7_0 : wrongL ⟨[⟨0, 0, 0, 0⟩], 1, 0, [0], [⟨(-1048576), 0, 1⟩]⟩ = [] := by decide
theorem ew_7_1 : wrongL ⟨[⟨0, 0, 0, 0⟩], 1, 0, [0], [⟨1048576, 0, 1⟩]⟩ = [] := by decide
theorem ew_7_2 : wrongL ⟨[⟨0, 0, 0, 0⟩], 1, 0, [0], [⟨(-1048577), 0, 1⟩]⟩ = [112, 111, 108, 101, 115] := by decide
theorem ew_7_3 : wrongL ⟨[⟨0, 0, 0, 0⟩], 1, 0, [0], [⟨1048577, 0, 1⟩]⟩ = [112, 111, 108, 101, 115] := by decide
theorem ew_8_0 : wrongL ⟨[⟨0, 0, 0, 0⟩], 1, 0, [0], [⟨0, (-1048576), 1⟩]⟩ = [] := by decide
theorem ew_8_1 : wrongL ⟨[⟨0, 0, 0, 0⟩], 1, 0, [0], [⟨0, 1048576, 1⟩]⟩ = [] := by decide
theorem ew_8_2 : wrongL ⟨[⟨0, 0, 0, 0⟩], 1, 0, [0], [⟨0, (-1048577), 1⟩]⟩ = [112, 111, 108, 101, 115] := by decide
theorem ew_8_3 : wrongL ⟨[⟨0, 0, 0, 0⟩], 1, 0, [0], [⟨0, 1048577, 1⟩]⟩ = [112, 111, 108, 101, 115] := by decide
theorem ew_9_0 : wrongL ⟨[⟨0, 0, 0, 0⟩], 1, 0, [0], [⟨0, 0, 1⟩]⟩ = [] := by decide
theorem ew_9_1 : wrongL ⟨[⟨0, 0, 0, 0⟩], 1, 0, [0], [⟨0, 0, 1048576⟩]⟩ = [] := by decide
theorem ew_9_2 : wrongL ⟨[⟨0, 0, 0, 0⟩], 1, 0, [0], [⟨0, 0, 0⟩]⟩ = [112, 111, 108, 101, 115] := by decide
theorem ew_9_3 : wrongL ⟨[⟨0, 0, 0, 0⟩], 1, 0, [0], [⟨0, 0, 1048577⟩]⟩ = [112, 111, 108, 101, 115] := by decide
theorem venueEdges_law (part : Int) (hp : -9223372036854775808 ≤ part ∧ part ≤ 9223372036854775807) (edge : Int) (hq : -9223372036854775808 ≤ edge ∧ edge ≤ 9223372036854775807) (w : World) :
    Calls Try.prog 5 #[.int .i64 part, .int .i64 edge] w fun e w' => e = .returned (.bool true) ∧ Below w.heap.size w w' := by
  obtain ⟨k, hk, ek⟩ := mod_u64 part 10 (by omega)
  obtain ⟨e, he, ee⟩ := mod_u64 edge 4 (by omega)
  rcases (by omega : k = 0 ∨ k = 1 ∨ k = 2 ∨ k = 3 ∨ k = 4 ∨ k = 5 ∨ k = 6 ∨ k = 7 ∨ k = 8 ∨ k = 9) with rfl | rfl | rfl | rfl | rfl | rfl | rfl | rfl | rfl | rfl
  · rcases (by omega : e = 0 ∨ e = 1 ∨ e = 2 ∨ e = 3) with rfl | rfl | rfl | rfl
    · exact edges_0_in part edge 0 (by decide) ek ee 0 (by decide) (by decide) ew_0_0 w
    · exact edges_0_in part edge 1 (by decide) ek ee 999 (by decide) (by decide) ew_0_1 w
    · exact edges_0_out part edge 2 (by decide) ek ee (-1) (by decide) (by decide) ew_0_2 w
    · exact edges_0_out part edge 3 (by decide) ek ee 1000 (by decide) (by decide) ew_0_3 w
  · rcases (by omega : e = 0 ∨ e = 1 ∨ e = 2 ∨ e = 3) with rfl | rfl | rfl | rfl
    · exact edges_1_in part edge 0 (by decide) ek ee (-1048576) (by decide) (by decide) ew_1_0 w
    · exact edges_1_in part edge 1 (by decide) ek ee 1048576 (by decide) (by decide) ew_1_1 w
    · exact edges_1_out part edge 2 (by decide) ek ee (-1048577) (by decide) (by decide) ew_1_2 w
    · exact edges_1_out part edge 3 (by decide) ek ee 1048577 (by decide) (by decide) ew_1_3 w
  · rcases (by omega : e = 0 ∨ e = 1 ∨ e = 2 ∨ e = 3) with rfl | rfl | rfl | rfl
    · exact edges_2_in part edge 0 (by decide) ek ee (-1048576) (by decide) (by decide) ew_2_0 w
    · exact edges_2_in part edge 1 (by decide) ek ee 1048576 (by decide) (by decide) ew_2_1 w
    · exact edges_2_out part edge 2 (by decide) ek ee (-1048577) (by decide) (by decide) ew_2_2 w
    · exact edges_2_out part edge 3 (by decide) ek ee 1048577 (by decide) (by decide) ew_2_3 w
  · rcases (by omega : e = 0 ∨ e = 1 ∨ e = 2 ∨ e = 3) with rfl | rfl | rfl | rfl
    · exact edges_3_in part edge 0 (by decide) ek ee 0 (by decide) (by decide) ew_3_0 w
    · exact edges_3_in part edge 1 (by decide) ek ee 2 (by decide) (by decide) ew_3_1 w
    · exact edges_3_out part edge 2 (by decide) ek ee (-1) (by decide) (by decide) ew_3_2 w
    · exact edges_3_out part edge 3 (by decide) ek ee 3 (by decide) (by decide) ew_3_3 w
  · rcases (by omega : e = 0 ∨ e = 1 ∨ e = 2 ∨ e = 3) with rfl | rfl | rfl | rfl
    · exact edges_4_in part edge 0 (by decide) ek ee 1 (by decide) (by decide) ew_4_0 w
    · exact edges_4_in part edge 1 (by decide) ek ee 1048576 (by decide) (by decide) ew_4_1 w
    · exact edges_4_out part edge 2 (by decide) ek ee 0 (by decide) (by decide) ew_4_2 w
    · exact edges_4_out part edge 3 (by decide) ek ee 1048577 (by decide) (by decide) ew_4_3 w
  · rcases (by omega : e = 0 ∨ e = 1 ∨ e = 2 ∨ e = 3) with rfl | rfl | rfl | rfl
    · exact edges_5_in part edge 0 (by decide) ek ee 0 (by decide) (by decide) ew_5_0 w
    · exact edges_5_in part edge 1 (by decide) ek ee 1048576 (by decide) (by decide) ew_5_1 w
    · exact edges_5_out part edge 2 (by decide) ek ee (-1) (by decide) (by decide) ew_5_2 w
    · exact edges_5_out part edge 3 (by decide) ek ee 1048577 (by decide) (by decide) ew_5_3 w
  · rcases (by omega : e = 0 ∨ e = 1 ∨ e = 2 ∨ e = 3) with rfl | rfl | rfl | rfl
    · exact edges_6_in part edge 0 (by decide) ek ee 0 (by decide) (by decide) ew_6_0 w
    · exact edges_6_in part edge 1 (by decide) ek ee 0 (by decide) (by decide) ew_6_1 w
    · exact edges_6_out part edge 2 (by decide) ek ee (-1) (by decide) (by decide) ew_6_2 w
    · exact edges_6_out part edge 3 (by decide) ek ee 1 (by decide) (by decide) ew_6_3 w
  · rcases (by omega : e = 0 ∨ e = 1 ∨ e = 2 ∨ e = 3) with rfl | rfl | rfl | rfl
    · exact edges_7_in part edge 0 (by decide) ek ee (-1048576) (by decide) (by decide) ew_7_0 w
    · exact edges_7_in part edge 1 (by decide) ek ee 1048576 (by decide) (by decide) ew_7_1 w
    · exact edges_7_out part edge 2 (by decide) ek ee (-1048577) (by decide) (by decide) ew_7_2 w
    · exact edges_7_out part edge 3 (by decide) ek ee 1048577 (by decide) (by decide) ew_7_3 w
  · rcases (by omega : e = 0 ∨ e = 1 ∨ e = 2 ∨ e = 3) with rfl | rfl | rfl | rfl
    · exact edges_8_in part edge 0 (by decide) ek ee (-1048576) (by decide) (by decide) ew_8_0 w
    · exact edges_8_in part edge 1 (by decide) ek ee 1048576 (by decide) (by decide) ew_8_1 w
    · exact edges_8_out part edge 2 (by decide) ek ee (-1048577) (by decide) (by decide) ew_8_2 w
    · exact edges_8_out part edge 3 (by decide) ek ee 1048577 (by decide) (by decide) ew_8_3 w
  · rcases (by omega : e = 0 ∨ e = 1 ∨ e = 2 ∨ e = 3) with rfl | rfl | rfl | rfl
    · exact edges_9_in part edge 0 (by decide) ek ee 1 (by decide) (by decide) ew_9_0 w
    · exact edges_9_in part edge 1 (by decide) ek ee 1048576 (by decide) (by decide) ew_9_1 w
    · exact edges_9_out part edge 2 (by decide) ek ee 0 (by decide) (by decide) ew_9_2 w
    · exact edges_9_out part edge 3 (by decide) ek ee 1048577 (by decide) (by decide) ew_9_3 w
end Go.Proofs.Ytoaapngfbidllaa
