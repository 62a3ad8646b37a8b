/- PrintSeats answers true: its walk. -/
import Derived.Test.YtpkjhlcolgoknaaDoorQTold
import Derived.Test.YtpkjhlcolgoknaaDoorQRefS
namespace Go.Proofs.YtpkjhlcolgoknaaDoor.Prn
set_option linter.unusedVariables false
set_option maxRecDepth 100000
open Go.RowKit Go.Shelf
open Go.Proofs.YtpkjhlcolgoknaaDoor.Ven (Seat Box mixed below_alloc BelowOf wp_region_quiet_below Calls.below_of same_world)

attribute [local go_sem] bapp
theorem seatL_eq (r x y k : Int) : seatL ⟨r, x, y, k⟩ = wordL k ++ 32 :: (Lib.itoa r ++ 32 :: (Lib.itoa x ++ 32 :: Lib.itoa y)) := by simp [seatL, factL, numsL]
theorem wordL_cases (k : Int) : (k = 0 ∧ wordL k = [115, 101, 97, 116]) ∨ (k = 1 ∧ wordL k = [119, 104, 101, 101, 108]) ∨ (k = 2 ∧ wordL k = [99, 111, 109, 112, 97, 110, 105, 111, 110]) ∨ (k < 0 ∧ wordL k = [63]) ∨ (0 ≤ k ∧ 2 < k ∧ wordL k = [63]) := by
  unfold wordL
  by_cases h0 : k = 0
  · exact .inl ⟨h0, if_pos h0⟩
  · by_cases h1 : k = 1
    · exact .inr (.inl ⟨h1, by rw [if_neg h0, if_pos h1]⟩)
    · by_cases h2 : k = 2
      · exact .inr (.inr (.inl ⟨h2, by rw [if_neg h0, if_neg h1, if_pos h2]⟩))
      · by_cases h3 : k < 0
        · exact .inr (.inr (.inr (.inl ⟨h3, by rw [if_neg h0, if_neg h1, if_neg h2]⟩)))
        · exact .inr (.inr (.inr (.inr ⟨by omega, by omega, by rw [if_neg h0, if_neg h1, if_neg h2]⟩)))
set_option maxHeartbeats 8000000 in
theorem seats_law (r x y k : Int) (hb : I64 r ∧ I64 x ∧ I64 y) (w : World) (hp : Pow w) :
    Calls Tryd.prog 5 #[.agg #[.int .i64 r, .int .i64 x, .int .i64 y, .int .i64 k]] w fun e w' => e = .returned (.bool true) ∧ Below w.heap.size w w' := by
  obtain ⟨h0, h1, h2⟩ := hb
  have HA : Hid (Below w.heap.size w (w.alloc (.cells #[.int .i64 r, .int .i64 x, .int .i64 y, .int .i64 k] 28))) := below_alloc w _
  have HG : Hid (Box (w.alloc (.cells #[.int .i64 r, .int .i64 x, .int .i64 y, .int .i64 k] 28)) w.heap.size 28 #[.int .i64 r, .int .i64 x, .int .i64 y, .int .i64 k]) := Box.fresh _ _ _
  have HPW : Hid (∀ W, Below w.heap.size w W → Pow W) := fun W hW => hp.next hW
  have HSE : Hid (∀ W, Below w.heap.size w W → Calls Tryd.prog 10 #[.agg #[.int .i64 r, .int .i64 x, .int .i64 y, .int .i64 k]] W fun e w' => e = .returned (.string ⟨(wordL k ++ 32 :: (Lib.itoa r ++ 32 :: (Lib.itoa x ++ 32 :: Lib.itoa y))).toArray⟩) ∧ Below W.heap.size W w') := fun W hW => by
    have h := seat_any ⟨r, x, y, k⟩ h0 h1 h2 W (HPW.out W hW)
    rw [seatL_eq] at h
    exact h
  have c0 : Hid (∀ w, Calls Tryd.prog 15 #[.int .i64 r] w fun e w' => e = .returned (.string ⟨(Lib.itoa r).toArray⟩) ∧ w' = w) := fun w => dec_any r h0 w
  have c1 : Hid (∀ w, Calls Tryd.prog 15 #[.int .i64 x] w fun e w' => e = .returned (.string ⟨(Lib.itoa x).toArray⟩) ∧ w' = w) := fun w => dec_any x h1 w
  have c2 : Hid (∀ w, Calls Tryd.prog 15 #[.int .i64 y] w fun e w' => e = .returned (.string ⟨(Lib.itoa y).toArray⟩) ∧ w' = w) := fun w => dec_any y h2 w
  have l0 := itoa_len r h0
  have l1 := itoa_len x h1
  have l2 := itoa_len y h2
  have hw := wordL_len k
  have hk := wordL_cases k
  clear h0 h1 h2 hp
  generalize Lib.itoa r = R at HSE c0 l0
  generalize Lib.itoa x = X at HSE c1 l1
  generalize Lib.itoa y = Y at HSE c2 l2
  rcases hk with ⟨rfl, he⟩ | ⟨rfl, he⟩ | ⟨rfl, he⟩ | ⟨hk, he⟩ | ⟨hk, hk2, he⟩
  all_goals
    rw [he] at HSE hw
    clear he
    go_enter Tryd.func5, Tryd.ntmps5
    go_wp2_with fail
  · have HA2 := HA.out.trans ((below_alloc (w.alloc (.cells #[.int .i64 r, .int .i64 x, .int .i64 y, .int .i64 0] 28)) (.cells #[.string ⟨#[115, 101, 97, 116]⟩, .string ⟨#[119, 104, 101, 101, 108]⟩, .string ⟨#[99, 111, 109, 112, 97, 110, 105, 111, 110]⟩] 9)).mono HA.out.size)
    have HG2 := HG.out.next (below_alloc (w.alloc (.cells #[.int .i64 r, .int .i64 x, .int .i64 y, .int .i64 0] 28)) (.cells #[.string ⟨#[115, 101, 97, 116]⟩, .string ⟨#[119, 104, 101, 101, 108]⟩, .string ⟨#[99, 111, 109, 112, 97, 110, 105, 111, 110]⟩] 9))
    clear HA HG
    generalize ((w.alloc (.cells #[.int .i64 r, .int .i64 x, .int .i64 y, .int .i64 0] 28)).alloc (.cells #[.string ⟨#[115, 101, 97, 116]⟩, .string ⟨#[119, 104, 101, 101, 108]⟩, .string ⟨#[99, 111, 109, 112, 97, 110, 105, 111, 110]⟩] 9)) = W at HA2 HG2 ⊢
    have hne : Nonempty (BelowOf W) := ⟨⟨W, Below.refl _ W⟩⟩
    have i0 := fun p : BelowOf W => (HG2.next p.h).cell 0 _ rfl
    have i1 := fun p : BelowOf W => (HG2.next p.h).cell 1 _ rfl
    have i2 := fun p : BelowOf W => (HG2.next p.h).cell 2 _ rfl
    have i3 := fun p : BelowOf W => (HG2.next p.h).cell 3 _ rfl
    have il := fun p : BelowOf W => (HG2.next p.h).lt
    have HT : Hid (∀ p : BelowOf W, Below w.heap.size w p.w) := fun p => HA2.trans (p.h.mono HA2.size)
    have HPT : Hid (∀ p : BelowOf W, Pow p.w) := fun p => HPW.out _ (HT.out p)
    have HS : Hid (∀ p : BelowOf W, Calls Tryd.prog 10 #[.agg #[.int .i64 r, .int .i64 x, .int .i64 y, .int .i64 0]] p.w fun e w' => e = .returned (.string ⟨(_ ++ 32 :: (R ++ 32 :: (X ++ 32 :: Y))).toArray⟩) ∧ Below p.w.heap.size p.w w') := fun p => HSE.out _ (HT.out p)
    clear HG2 HA2 HSE HPW
    refine wp_region_quiet_below mixed (by kernel_rfl) ?_
    go_big_quiet_step (exact Calls.below_of (told_any _ (HPT.out _)))
    go_big_quiet_step (fail)
    go_big_quiet_step (fail)
    go_big_quiet_step (exact Calls.below_of (HS.out _))
    go_big_quiet_step (fail)
    go_big_quiet_step (fail)
    go_big_quiet_step (fail)
    go_big_quiet_step (fail)
    go_big_quiet_step (exact Calls.below_of (same_world (c0.out _)))
    go_big_quiet_step (fail)
    go_big_quiet_step (fail)
    go_big_quiet_step (fail)
    go_big_quiet_step (fail)
    go_big_quiet_step (exact Calls.below_of (same_world (c1.out _)))
    go_big_quiet_step (fail)
    go_big_quiet_step (fail)
    go_big_quiet_step (fail)
    go_big_quiet_step (fail)
    go_big_quiet_step (exact Calls.below_of (same_world (c2.out _)))
    go_big_quiet_step (fail)
    go_big_quiet_step (fail)
    go_big_quiet_step (fail)
    go_big_quiet_step (fail)
    refine wpQuiet_nil ?_
    rintro _ ⟨p, rfl⟩
    have HF : Hid (Below w.heap.size w p.w) := HT.out p
    go_wp2
    go_ret
    exact ⟨rfl, HF.out⟩
  · have HA2 := HA.out.trans ((below_alloc (w.alloc (.cells #[.int .i64 r, .int .i64 x, .int .i64 y, .int .i64 1] 28)) (.cells #[.string ⟨#[115, 101, 97, 116]⟩, .string ⟨#[119, 104, 101, 101, 108]⟩, .string ⟨#[99, 111, 109, 112, 97, 110, 105, 111, 110]⟩] 9)).mono HA.out.size)
    have HG2 := HG.out.next (below_alloc (w.alloc (.cells #[.int .i64 r, .int .i64 x, .int .i64 y, .int .i64 1] 28)) (.cells #[.string ⟨#[115, 101, 97, 116]⟩, .string ⟨#[119, 104, 101, 101, 108]⟩, .string ⟨#[99, 111, 109, 112, 97, 110, 105, 111, 110]⟩] 9))
    clear HA HG
    generalize ((w.alloc (.cells #[.int .i64 r, .int .i64 x, .int .i64 y, .int .i64 1] 28)).alloc (.cells #[.string ⟨#[115, 101, 97, 116]⟩, .string ⟨#[119, 104, 101, 101, 108]⟩, .string ⟨#[99, 111, 109, 112, 97, 110, 105, 111, 110]⟩] 9)) = W at HA2 HG2 ⊢
    have hne : Nonempty (BelowOf W) := ⟨⟨W, Below.refl _ W⟩⟩
    have i0 := fun p : BelowOf W => (HG2.next p.h).cell 0 _ rfl
    have i1 := fun p : BelowOf W => (HG2.next p.h).cell 1 _ rfl
    have i2 := fun p : BelowOf W => (HG2.next p.h).cell 2 _ rfl
    have i3 := fun p : BelowOf W => (HG2.next p.h).cell 3 _ rfl
    have il := fun p : BelowOf W => (HG2.next p.h).lt
    have HT : Hid (∀ p : BelowOf W, Below w.heap.size w p.w) := fun p => HA2.trans (p.h.mono HA2.size)
    have HPT : Hid (∀ p : BelowOf W, Pow p.w) := fun p => HPW.out _ (HT.out p)
    have HS : Hid (∀ p : BelowOf W, Calls Tryd.prog 10 #[.agg #[.int .i64 r, .int .i64 x, .int .i64 y, .int .i64 1]] p.w fun e w' => e = .returned (.string ⟨(_ ++ 32 :: (R ++ 32 :: (X ++ 32 :: Y))).toArray⟩) ∧ Below p.w.heap.size p.w w') := fun p => HSE.out _ (HT.out p)
    clear HG2 HA2 HSE HPW
    refine wp_region_quiet_below mixed (by kernel_rfl) ?_
    go_big_quiet_step (exact Calls.below_of (told_any _ (HPT.out _)))
    go_big_quiet_step (fail)
    go_big_quiet_step (fail)
    go_big_quiet_step (exact Calls.below_of (HS.out _))
    go_big_quiet_step (fail)
    go_big_quiet_step (fail)
    go_big_quiet_step (fail)
    go_big_quiet_step (fail)
    go_big_quiet_step (exact Calls.below_of (same_world (c0.out _)))
    go_big_quiet_step (fail)
    go_big_quiet_step (fail)
    go_big_quiet_step (fail)
    go_big_quiet_step (fail)
    go_big_quiet_step (exact Calls.below_of (same_world (c1.out _)))
    go_big_quiet_step (fail)
    go_big_quiet_step (fail)
    go_big_quiet_step (fail)
    go_big_quiet_step (fail)
    go_big_quiet_step (exact Calls.below_of (same_world (c2.out _)))
    go_big_quiet_step (fail)
    go_big_quiet_step (fail)
    go_big_quiet_step (fail)
    go_big_quiet_step (fail)
    refine wpQuiet_nil ?_
    rintro _ ⟨p, rfl⟩
    have HF : Hid (Below w.heap.size w p.w) := HT.out p
    go_wp2
    go_ret
    exact ⟨rfl, HF.out⟩
  · have HA2 := HA.out.trans ((below_alloc (w.alloc (.cells #[.int .i64 r, .int .i64 x, .int .i64 y, .int .i64 2] 28)) (.cells #[.string ⟨#[115, 101, 97, 116]⟩, .string ⟨#[119, 104, 101, 101, 108]⟩, .string ⟨#[99, 111, 109, 112, 97, 110, 105, 111, 110]⟩] 9)).mono HA.out.size)
    have HG2 := HG.out.next (below_alloc (w.alloc (.cells #[.int .i64 r, .int .i64 x, .int .i64 y, .int .i64 2] 28)) (.cells #[.string ⟨#[115, 101, 97, 116]⟩, .string ⟨#[119, 104, 101, 101, 108]⟩, .string ⟨#[99, 111, 109, 112, 97, 110, 105, 111, 110]⟩] 9))
    clear HA HG
    generalize ((w.alloc (.cells #[.int .i64 r, .int .i64 x, .int .i64 y, .int .i64 2] 28)).alloc (.cells #[.string ⟨#[115, 101, 97, 116]⟩, .string ⟨#[119, 104, 101, 101, 108]⟩, .string ⟨#[99, 111, 109, 112, 97, 110, 105, 111, 110]⟩] 9)) = W at HA2 HG2 ⊢
    have hne : Nonempty (BelowOf W) := ⟨⟨W, Below.refl _ W⟩⟩
    have i0 := fun p : BelowOf W => (HG2.next p.h).cell 0 _ rfl
    have i1 := fun p : BelowOf W => (HG2.next p.h).cell 1 _ rfl
    have i2 := fun p : BelowOf W => (HG2.next p.h).cell 2 _ rfl
    have i3 := fun p : BelowOf W => (HG2.next p.h).cell 3 _ rfl
    have il := fun p : BelowOf W => (HG2.next p.h).lt
    have HT : Hid (∀ p : BelowOf W, Below w.heap.size w p.w) := fun p => HA2.trans (p.h.mono HA2.size)
    have HPT : Hid (∀ p : BelowOf W, Pow p.w) := fun p => HPW.out _ (HT.out p)
    have HS : Hid (∀ p : BelowOf W, Calls Tryd.prog 10 #[.agg #[.int .i64 r, .int .i64 x, .int .i64 y, .int .i64 2]] p.w fun e w' => e = .returned (.string ⟨(_ ++ 32 :: (R ++ 32 :: (X ++ 32 :: Y))).toArray⟩) ∧ Below p.w.heap.size p.w w') := fun p => HSE.out _ (HT.out p)
    clear HG2 HA2 HSE HPW
    refine wp_region_quiet_below mixed (by kernel_rfl) ?_
    go_big_quiet_step (exact Calls.below_of (told_any _ (HPT.out _)))
    go_big_quiet_step (fail)
    go_big_quiet_step (fail)
    go_big_quiet_step (exact Calls.below_of (HS.out _))
    go_big_quiet_step (fail)
    go_big_quiet_step (fail)
    go_big_quiet_step (fail)
    go_big_quiet_step (fail)
    go_big_quiet_step (exact Calls.below_of (same_world (c0.out _)))
    go_big_quiet_step (fail)
    go_big_quiet_step (fail)
    go_big_quiet_step (fail)
    go_big_quiet_step (fail)
    go_big_quiet_step (exact Calls.below_of (same_world (c1.out _)))
    go_big_quiet_step (fail)
    go_big_quiet_step (fail)
    go_big_quiet_step (fail)
    go_big_quiet_step (fail)
    go_big_quiet_step (exact Calls.below_of (same_world (c2.out _)))
    go_big_quiet_step (fail)
    go_big_quiet_step (fail)
    go_big_quiet_step (fail)
    go_big_quiet_step (fail)
    refine wpQuiet_nil ?_
    rintro _ ⟨p, rfl⟩
    have HF : Hid (Below w.heap.size w p.w) := HT.out p
    go_wp2
    go_ret
    exact ⟨rfl, HF.out⟩
  · have HA2 := HA.out
    have HG2 := HG.out
    clear HA HG
    generalize (w.alloc (.cells #[.int .i64 r, .int .i64 x, .int .i64 y, .int .i64 k] 28)) = W at HA2 HG2 ⊢
    have hne : Nonempty (BelowOf W) := ⟨⟨W, Below.refl _ W⟩⟩
    have i0 := fun p : BelowOf W => (HG2.next p.h).cell 0 _ rfl
    have i1 := fun p : BelowOf W => (HG2.next p.h).cell 1 _ rfl
    have i2 := fun p : BelowOf W => (HG2.next p.h).cell 2 _ rfl
    have i3 := fun p : BelowOf W => (HG2.next p.h).cell 3 _ rfl
    have il := fun p : BelowOf W => (HG2.next p.h).lt
    have HT : Hid (∀ p : BelowOf W, Below w.heap.size w p.w) := fun p => HA2.trans (p.h.mono HA2.size)
    have HPT : Hid (∀ p : BelowOf W, Pow p.w) := fun p => HPW.out _ (HT.out p)
    have HS : Hid (∀ p : BelowOf W, Calls Tryd.prog 10 #[.agg #[.int .i64 r, .int .i64 x, .int .i64 y, .int .i64 k]] p.w fun e w' => e = .returned (.string ⟨(_ ++ 32 :: (R ++ 32 :: (X ++ 32 :: Y))).toArray⟩) ∧ Below p.w.heap.size p.w w') := fun p => HSE.out _ (HT.out p)
    clear HG2 HA2 HSE HPW
    refine wp_region_quiet_below mixed (by kernel_rfl) ?_
    go_big_quiet_step (exact Calls.below_of (told_any _ (HPT.out _)))
    go_big_quiet_step (fail)
    go_big_quiet_step (fail)
    go_big_quiet_step (exact Calls.below_of (HS.out _))
    go_big_quiet_step (fail)
    go_big_quiet_step (fail)
    go_big_quiet_step (fail)
    go_big_quiet_step (fail)
    go_big_quiet_step (exact Calls.below_of (same_world (c0.out _)))
    go_big_quiet_step (fail)
    go_big_quiet_step (fail)
    go_big_quiet_step (fail)
    go_big_quiet_step (fail)
    go_big_quiet_step (exact Calls.below_of (same_world (c1.out _)))
    go_big_quiet_step (fail)
    go_big_quiet_step (fail)
    go_big_quiet_step (fail)
    go_big_quiet_step (fail)
    go_big_quiet_step (exact Calls.below_of (same_world (c2.out _)))
    go_big_quiet_step (fail)
    go_big_quiet_step (fail)
    go_big_quiet_step (fail)
    go_big_quiet_step (fail)
    refine wpQuiet_nil ?_
    rintro _ ⟨p, rfl⟩
    have HF : Hid (Below w.heap.size w p.w) := HT.out p
    go_wp2
    go_ret
    exact ⟨rfl, HF.out⟩
  · have HA2 := HA.out
    have HG2 := HG.out
    clear HA HG
    generalize (w.alloc (.cells #[.int .i64 r, .int .i64 x, .int .i64 y, .int .i64 k] 28)) = W at HA2 HG2 ⊢
    have hne : Nonempty (BelowOf W) := ⟨⟨W, Below.refl _ W⟩⟩
    have i0 := fun p : BelowOf W => (HG2.next p.h).cell 0 _ rfl
    have i1 := fun p : BelowOf W => (HG2.next p.h).cell 1 _ rfl
    have i2 := fun p : BelowOf W => (HG2.next p.h).cell 2 _ rfl
    have i3 := fun p : BelowOf W => (HG2.next p.h).cell 3 _ rfl
    have il := fun p : BelowOf W => (HG2.next p.h).lt
    have HT : Hid (∀ p : BelowOf W, Below w.heap.size w p.w) := fun p => HA2.trans (p.h.mono HA2.size)
    have HPT : Hid (∀ p : BelowOf W, Pow p.w) := fun p => HPW.out _ (HT.out p)
    have HS : Hid (∀ p : BelowOf W, Calls Tryd.prog 10 #[.agg #[.int .i64 r, .int .i64 x, .int .i64 y, .int .i64 k]] p.w fun e w' => e = .returned (.string ⟨(_ ++ 32 :: (R ++ 32 :: (X ++ 32 :: Y))).toArray⟩) ∧ Below p.w.heap.size p.w w') := fun p => HSE.out _ (HT.out p)
    clear HG2 HA2 HSE HPW
    refine wp_region_quiet_below mixed (by kernel_rfl) ?_
    go_big_quiet_step (exact Calls.below_of (told_any _ (HPT.out _)))
    go_big_quiet_step (fail)
    go_big_quiet_step (fail)
    go_big_quiet_step (exact Calls.below_of (HS.out _))
    go_big_quiet_step (fail)
    go_big_quiet_step (fail)
    go_big_quiet_step (fail)
    go_big_quiet_step (fail)
    go_big_quiet_step (exact Calls.below_of (same_world (c0.out _)))
    go_big_quiet_step (fail)
    go_big_quiet_step (fail)
    go_big_quiet_step (fail)
    go_big_quiet_step (fail)
    go_big_quiet_step (exact Calls.below_of (same_world (c1.out _)))
    go_big_quiet_step (fail)
    go_big_quiet_step (fail)
    go_big_quiet_step (fail)
    go_big_quiet_step (fail)
    go_big_quiet_step (exact Calls.below_of (same_world (c2.out _)))
    go_big_quiet_step (fail)
    go_big_quiet_step (fail)
    go_big_quiet_step (fail)
    go_big_quiet_step (fail)
    refine wpQuiet_nil ?_
    rintro _ ⟨p, rfl⟩
    have HF : Hid (Below w.heap.size w p.w) := HT.out p
    go_wp2
    go_ret
    exact ⟨rfl, HF.out⟩
end Go.Proofs.YtpkjhlcolgoknaaDoor.Prn
