/- parterreref2.word, Seat by contracts. -/
import Derived.Test.YtpkjhlcolgoknaaDoorQVenue
import Derived.Test.YtpkjhlcolgoknaaDoorTDec
import Derived.Test.YtpkjhlcolgoknaaDoorVRWrong
import Derived.Deep.QuietTactic
import Derived.BigQuiet
namespace Go.Proofs.YtpkjhlcolgoknaaDoor.Prn
set_option linter.unusedVariables false
set_option maxRecDepth 100000
open Go.RowKit Go.Shelf
open Go.Proofs.YtpkjhlcolgoknaaDoor.Ven (Seat Pole Ven VenAt venV Box mayB mixed SeatAt below_alloc)

attribute [local go_sem] bapp
theorem dec_any (n : Int) (hn : I64 n) (w : World) : Calls Tryd.prog 15 #[.int .i64 n] w fun e w' => e = .returned (.string ⟨(Lib.itoa n).toArray⟩) ∧ w' = w := Tok.Decimal_any n hn.1 hn.2 w
theorem rword_any (k : Int) (w : World) : Calls Tryd.prog 22 #[.int .i64 k] w fun e w' => e = .returned (.string ⟨(wordL k).toArray⟩) ∧ w' = w := by
  unfold wordL
  by_cases h0 : k = 0
  · subst h0
    go_enter Tryd.func22, Tryd.ntmps22
    go_wp2
    go_ret
    exact ⟨rfl, rfl⟩
  rw [if_neg h0]
  by_cases h1 : k = 1
  · subst h1
    go_enter Tryd.func22, Tryd.ntmps22
    go_wp2
    go_ret
    exact ⟨rfl, rfl⟩
  rw [if_neg h1]
  by_cases h2 : k = 2
  · subst h2
    go_enter Tryd.func22, Tryd.ntmps22
    go_wp2
    go_ret
    exact ⟨rfl, rfl⟩
  rw [if_neg h2]
  go_enter Tryd.func22, Tryd.ntmps22
  go_wp2
  go_ret
  exact ⟨rfl, rfl⟩
set_option maxHeartbeats 2000000 in
theorem rseat_any (s : Seat) (h0 : I64 s.row) (h1 : I64 s.x) (h2 : I64 s.y) (w : World) :
    Calls Tryd.prog 11 #[.agg #[.int .i64 s.row, .int .i64 s.x, .int .i64 s.y, .int .i64 s.kind]] w fun e w' => e = .returned (.string ⟨(seatL s).toArray⟩) ∧ Below w.heap.size w w' := by
  obtain ⟨r, x, y, k⟩ := s
  simp only at h0 h1 h2
  have HL : Hid (seatL ⟨r, x, y, k⟩ = wordL k ++ 32 :: (Lib.itoa r ++ 32 :: (Lib.itoa x ++ 32 :: Lib.itoa y))) := by
    show _ = _
    simp [seatL, factL, numsL]
  have hw := wordL_len k
  have l0 := itoa_len r h0
  have l1 := itoa_len x h1
  have l2 := itoa_len y h2
  have c0 : Hid (∀ w, Calls Tryd.prog 15 #[.int .i64 r] w fun e w' => e = .returned (.string ⟨(Lib.itoa r).toArray⟩) ∧ w' = w) := fun w => dec_any r h0 w
  have c1 : Hid (∀ w, Calls Tryd.prog 15 #[.int .i64 x] w fun e w' => e = .returned (.string ⟨(Lib.itoa x).toArray⟩) ∧ w' = w) := fun w => dec_any x h1 w
  have c2 : Hid (∀ w, Calls Tryd.prog 15 #[.int .i64 y] w fun e w' => e = .returned (.string ⟨(Lib.itoa y).toArray⟩) ∧ w' = w) := fun w => dec_any y h2 w
  have cw : Hid (∀ w, Calls Tryd.prog 22 #[.int .i64 k] w fun e w' => e = .returned (.string ⟨(wordL k).toArray⟩) ∧ w' = w) := fun w => rword_any k w
  have HB : Hid (∀ n, Below w.heap.size w ((w.alloc (.cells #[.int .i64 r, .int .i64 x, .int .i64 y, .int .i64 k] 28)).drewN n)) := fun n => (below_alloc w _).trans ⟨rfl, rfl, rfl, Nat.le_refl _, fun _ _ => rfl⟩
  rw [HL.out]
  clear h0 h1 h2
  generalize Lib.itoa r = R at HL l0 c0 ⊢
  generalize Lib.itoa x = X at HL l1 c1 ⊢
  generalize Lib.itoa y = Y at HL l2 c2 ⊢
  generalize wordL k = K at HL hw cw ⊢
  clear HL
  go_enter Tryd.func11, Tryd.ntmps11
  go_wp2_with fail
  refine wp_region_quiet_lit (by kernel_rfl) (by kernel_rfl) ?_
  go_big_quiet_step (fail)
  go_big_quiet_step (fail)
  go_big_quiet_step ((go_at_call 22; exact Calls.quiet_of_same (cw.out _)))
  go_big_quiet_step (fail)
  go_big_quiet_step (fail)
  go_big_quiet_step (fail)
  go_big_quiet_step ((go_at_call 15; exact Calls.quiet_of_same (c0.out _)))
  go_big_quiet_step (fail)
  go_big_quiet_step (fail)
  go_big_quiet_step (fail)
  go_big_quiet_step (fail)
  go_big_quiet_step ((go_at_call 15; exact Calls.quiet_of_same (c1.out _)))
  go_big_quiet_step (fail)
  go_big_quiet_step (fail)
  go_big_quiet_step (fail)
  go_big_quiet_step (fail)
  go_big_quiet_step ((go_at_call 15; exact Calls.quiet_of_same (c2.out _)))
  go_big_quiet_step (fail)
  go_big_quiet_step (fail)
  refine wpQuiet_nil ?_
  rintro _ ⟨nq, rfl⟩
  go_wp2
  go_ret
  exact ⟨rfl, HB.out nq⟩
end Go.Proofs.YtpkjhlcolgoknaaDoor.Prn
