/-
  Roots of quotients of squares (own work).
-/
import Derived.Test.YtdoadaachaggnaaDoorGrFieldLaws16
set_option linter.unusedSimpArgs false
set_option linter.unusedVariables false
namespace Go.Am.Seat
open Go.Proofs Go.Am Go.Am.Num
set_option maxRecDepth 100000
set_option maxHeartbeats 4000000

instance : Std.Associative fmul := ⟨fmul_assoc⟩
instance : Std.Commutative fmul := ⟨fmul_comm⟩
theorem fI_sq : fmul fI fI = fneg f1 := fe_ext (by decide +kernel)
theorem neg1_ne1 : fneg f1 ≠ f1 := fun h => absurd (congrArg Subtype.val h) (by decide +kernel)
theorem neg1_neI : fneg f1 ≠ fI := fun h => absurd (congrArg Subtype.val h) (by decide +kernel)
theorem fmul_neg1 (u : Fe) : fmul u (fneg f1) = fneg u := by rw [fmul_comm, fneg_mul, fmul_comm, fmul_one]
theorem froot_pw (t : Fe) (a b e : Nat) (he : a * b + 1 = e) : fmul (fpw (fpw t a) b) t = fpw t e := by
  have h := fpw_mul t (a * b) 1
  rw [fpw_one] at h
  rw [fpw_pow, h, he]
theorem froot_eq (t : Fe) : froot t = fpw t 7237005577332262213973186563042994240829374041602535252466099000494570602493 := froot_pw t _ _ _ (by decide)
/-- What is found is u times a power. -/
theorem found_eq (u v : Fe) : rfound u v = fmul u (fpw (fmul u (rsev v)) 14474011154664524427946373126085988481658748083205070504932198000989141204987) := by
  have h1 : rfound u v = fmul u (fmul (fmul u (rsev v)) (fmul (froot (fmul u (rsev v))) (froot (fmul u (rsev v))))) := by
    unfold rfound rroot
    generalize froot (fmul u (rsev v)) = r
    unfold rsev rcube
    ac_rfl
  rw [h1, froot_eq]
  generalize fmul u (rsev v) = t
  congr 1
  have h2 : ∀ a b c : Nat, 1 + (a + b) = c → fmul t (fmul (fpw t a) (fpw t b)) = fpw t c := fun a b c h => by
    have := fpw_mul t 1 (a + b)
    rw [fpw_one] at this
    rw [fpw_mul, this, h]
  exact h2 _ _ _ (by decide)
theorem pow_sq (s : Fe) (k e : Nat) (h : k + k = e) : fpw (fmul s s) k = fpw s e := by rw [fpw_prod, fpw_mul, h]
theorem ratio_sq (x y : Fe) (hy : y ≠ f0) : rok (fmul x x) (fmul y y) = true ∧ fabs (fmul (fabs (rend (fmul x x) (fmul y y))) y) = fabs x := by
  have key : ∀ r : Fe, fmul (fmul r r) (fmul y y) = fmul x x → fabs (fmul (fabs r) y) = fabs x := by
    intro r hr
    apply fabs_of_square
    have h1 : fmul (fmul (fabs r) y) (fmul (fabs r) y) = fmul (fmul (fabs r) (fabs r)) (fmul y y) := by ac_rfl
    rw [h1, square_abs, hr]
  by_cases hx : x = f0
  · subst hx
    have e0 : fmul f0 f0 = f0 := fmul_zero f0
    have e1 : rfound (fmul f0 f0) (fmul y y) = fmul f0 f0 := by rw [found_eq, e0, fmul_comm, fmul_zero]
    have e2 : rend (fmul f0 f0) (fmul y y) = rroot (fmul f0 f0) (fmul y y) := by unfold rend; rw [if_pos e1]
    refine ⟨by unfold rok; rw [decide_eq_true e1]; rfl, ?_⟩
    rw [e2]
    exact key _ e1
  · let s : Fe := fmul x (fmul y (fmul y (fmul y (fmul y (fmul y (fmul y y))))))
    have hs : s ≠ f0 := by
      intro h
      have g : ∀ z, fmul y z = f0 → z = f0 := fun z h => (fmul_eq_zero h).resolve_left hy
      exact hy (g _ (g _ (g _ (g _ (g _ (g _ ((fmul_eq_zero h).resolve_left hx)))))))
    have ht : fmul (fmul x x) (rsev (fmul y y)) = fmul s s := by
      unfold rsev rcube
      show _ = fmul (fmul x (fmul y (fmul y (fmul y (fmul y (fmul y (fmul y y))))))) (fmul x (fmul y (fmul y (fmul y (fmul y (fmul y (fmul y y)))))))
      ac_rfl
    have hw := found_eq (fmul x x) (fmul y y)
    rw [ht, pow_sq s _ 28948022309329048855892746252171976963317496166410141009864396001978282409974 (by decide)] at hw
    have hc : fmul (fpw s 28948022309329048855892746252171976963317496166410141009864396001978282409974) (fpw s 28948022309329048855892746252171976963317496166410141009864396001978282409974) = fmul f1 f1 := by
      rw [fpw_mul, fmul_one, ← ffermat hs]
      exact congrArg (fpw s) (by decide)
    generalize fpw s 28948022309329048855892746252171976963317496166410141009864396001978282409974 = c at hw hc
    have hu : fmul x x ≠ f0 := fun h => by rcases fmul_eq_zero h with q | q <;> exact hx q
    rcases square_eq hc with rfl | rfl
    · rw [fmul_one] at hw
      have e2 : rend (fmul x x) (fmul y y) = rroot (fmul x x) (fmul y y) := by unfold rend; rw [if_pos hw]
      refine ⟨by unfold rok; rw [decide_eq_true hw]; rfl, ?_⟩
      rw [e2]
      exact key _ hw
    · have n1 : rfound (fmul x x) (fmul y y) ≠ fmul x x := fun h => neg1_ne1 (fmul_cancel hu (by rw [fmul_comm, ← hw, h, fmul_comm f1, fmul_one]))
      have n2 : rfound (fmul x x) (fmul y y) ≠ fmul (fmul x x) fI := fun h => neg1_neI (fmul_cancel hu (by rw [fmul_comm, ← hw, h, fmul_comm fI]))
      have e2 : rend (fmul x x) (fmul y y) = fmul (rroot (fmul x x) (fmul y y)) fI := by unfold rend; rw [if_neg n1, if_neg n2]
      have e3 : rfound (fmul x x) (fmul y y) = fneg (fmul x x) := by rw [hw, fmul_neg1]
      refine ⟨by unfold rok; rw [decide_eq_true e3, Bool.or_true], ?_⟩
      rw [e2]
      apply key
      have e4 : fmul (fmul (fmul (rroot (fmul x x) (fmul y y)) fI) (fmul (rroot (fmul x x) (fmul y y)) fI)) (fmul y y) = fmul (rfound (fmul x x) (fmul y y)) (fmul fI fI) := by
        unfold rfound
        ac_rfl
      rw [e4, e3, fI_sq, fmul_neg1, fneg_neg]
end Go.Am.Seat
