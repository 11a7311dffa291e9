/-
  BudgetHoldsSaid: between two windows, from Fresh on, no more than Most guesses are spent beside those that came back, and at none left there is none, for every input. No condition.
-/
import Derived.Test.YtalilffocbkfnaaRows
import Derived.Test.YtalilffocbkfnaaGrBudgetHolds14
import Derived.Test.YtalilffocbkfnaaGrBudgetHolds13
import Derived.Test.YtalilffocbkfnaaGrBudgetHolds9
import Derived.WalkKit
import Derived.ProofKit
import Derived.OpenShut
import Derived.Deep.DeepHandedRow
import Derived.Lib.LaidTab
set_option linter.unusedSimpArgs false
set_option linter.unusedVariables false
namespace Go.Proofs.Ytalilffocbkfnaa.fnBudgetHolds
open Go.ChangeShapes Go.WideShapes Go.ChangeAt Go.RowKit Go.Am Go.Am.Seat
set_option maxRecDepth 100000

theorem own : ownKnob Try.prog.godebug = none := by kernel_rfl
theorem laidOut : laidOutB Try.prog = true := by kernel_rfl

theorem start_mem {W : World} (hs : W.ShapedOpen Try.prog) : MR Try.prog (ren0 Try.prog mem0) mem0 W ∧ NoRow mem0 := by
  refine ⟨mr_tabs (Nat.le_of_ble_eq_true (by kernel_rfl)) (by exact Nat.zero_le _) ?_, ?_⟩
  · intro k b hb
    have h := (List.all_eq_true.1 (show mem0.all (fun | .dead => true | _ => false) = true by kernel_rfl)) b (List.mem_of_getElem? hb)
    cases b with
    | dead => trivial
    | row _ _ _ => cases h
    | tab _ _ => cases h
  · intro k e cs hb
    have h := (List.all_eq_true.1 (show mem0.all (fun | .dead => true | _ => false) = true by kernel_rfl)) _ (List.mem_of_getElem? hb)
    cases h

theorem params_ok : ∀ t ∈ Try.f5.params.toList, Try.prog.readableRec t = true ∧ t < Try.prog.types.size := by
  intro t ht
  have h := (List.all_eq_true.1 (show Try.f5.params.toList.all (fun t => Try.prog.readableRec t && decide (t < Try.prog.types.size)) = true by kernel_rfl)) t ht
  simpa using h


theorem contract (H : Type) (enc : TypeId × Value → H) (W : World) (base : Nat) (args : Array Value) (ds gs : List (DataW H)) (before : List MemPlace)
    (hval : ∀ (j : Nat) t v, Try.f5.params[j]? = some t → args[j]? = some v → Value.okWide Try.prog W .any base t v)
    (hW : DataW.Whole enc Try.prog Try.f5.params.toList Rows.budgetHoldsSpec.vars false W args.toList ds gs before) (hsh : W.ShapedOpen Try.prog) :
    Calls Try.prog 5 args W fun e W' => ∃ v, e = .returned v ∧ Rows.budgetHoldsSpec.post enc Try.prog Try.f5 false true false false W args v W' := by
  have hW' := hW
  obtain ⟨p, q, hA0, hV, hbef, hfz, hnd⟩ := hW
  have hA : DataW.TrodAll enc Try.prog W 0 (fun _ => true) true Try.f5.params.toList args.toList ds p := hA0
  rw [show Try.f5.params = #[24, 52, 22] from rfl] at hA hval
  obtain ⟨v0, vs0, d0, ds0, p0, q0, hargs0, rfl, hp0, h0, r0⟩ := trodAll_cons hA
  obtain ⟨v1, vs1, d1, ds1, p1, q1, hargs1, rfl, hp1, h1, r1⟩ := trodAll_cons r0
  obtain ⟨v2, vs2, d2, ds2, p2, q2, hargs2, rfl, hp2, h2, r2⟩ := trodAll_cons r1
  obtain ⟨hn1, rfl, hn3⟩ := trodAll_nil r2
  obtain rfl : args = #[v0, v1, v2] := by cases args; simp_all
  obtain ⟨rfl, rfl⟩ := trodVars_none hV
  clear hA0
  obtain ⟨M0, n0⟩ := start_mem hsh
  have hbk : BulkOK (H := H) Go.Am.bulk0 := bulk0_ok
  have sm : ∀ d : DataW H, Small bulk0 maxLen d := fun d => .inl (Nat.le_refl _)
  obtain ⟨cs0, rfl, k0, _⟩ := open_agg (ks := [.int .i64, .int .u64, .int .i64]) hbk (sm d0) (by kernel_rfl) (by kernel_rfl) (hval 0 24 v0 rfl rfl) h0
  obtain ⟨a1, m1, ρ1, k1, le1, vr1, M1', n1'⟩ := mr_arg (ks := [.int .u8, .bool]) hbk (sm d1) Try.underlying52 (by kernel_rfl) (by kernel_rfl) (by decide) (hval 1 52 v1 rfl rfl) h1 M0 n0
  obtain ⟨k2, _⟩ := open_cell (k := .int .u64) hbk (sm d2) (by kernel_rfl) (hval 2 22 v2 rfl rfl) h2
  obtain ⟨mZ, hrun⟩ := lawBH k0 k1 k2
  have hr := (runQ_sound envOK (fun _ h => by cases h) 2001).1 5 [.agg ⟨cs0⟩, a1, v2] m1 (.bool true) mZ hrun ρ1 W #[.agg ⟨cs0⟩, v1, v2] M1' ⟨rfl, fun i x y hx hy => by
    match i, hx, hy with
    | 0, hx, hy => cases hx; cases hy; exact .lit k0.lit
    | 1, hx, hy => cases hx; cases hy; exact vr1
    | 2, hx, hy => cases hx; cases hy; exact .lit (lit2_of_lit1 (lit1_of_lit0 (CK.is_lit (N := maxLen) (k := .int .u64) k2)))
    | i + 3, hx, hy => simp at hx⟩
  refine hr.mono fun e W' he => ?_
  obtain ⟨he, hb⟩ := below_of_ends n1' rfl he
  subst he
  exact ⟨_, rfl, post_true laidOut hW' rfl params_ok (tb := 4) rfl Try.underlying4 ⟨rfl, rfl, rfl⟩ hb⟩

/-- A world for the witness. -/
noncomputable def laidWorld (os : Os) : World := World.holding Try.prog os ⟨#[], #[], []⟩
def noArgs : Array Value := #[.agg #[.int .i64 0, .int .u64 0, .int .i64 0], .slice none 0 0, .int .u64 0]
theorem laid_met (os : Os) : laidMet Try.prog Rows.budgetHoldsRow.laid ((laidWorld os).forCall (fun _ _ => 0) ⟨#[], noArgs, []⟩).memory :=
  laidMet_of_run' 8 (by kernel_rfl) (by kernel_rfl)
theorem reads (os : Os) {H : Type} (enc : TypeId × Value → H) : ∃ places, DataW.whole enc Try.prog ((laidWorld os).forCall (fun _ _ => 0) ⟨#[], noArgs, []⟩).memory Try.f5.params.toList Rows.budgetHoldsSpec.vars false noArgs.toList 8 = some ([.agg [.lit (.int .i64 0), .lit (.int .u64 0), .lit (.int .i64 0)], .nil, .lit (.int .u64 0)], [], places) :=
  ⟨[], by kernel_rfl⟩

theorem lifted (os : Os) (started : os.Started) (H : Type) (enc : TypeId × Value → H) (F : Stop.Interp) :
    ReturnsInHanded {} Try.checked os 5 .any ((OpenSpec.ofChange Rows.budgetHoldsSpec).preRow enc Try.prog Try.f5 Rows.budgetHoldsRow.domain false Rows.budgetHoldsRow.laid) (((OpenSpec.ofChange Rows.budgetHoldsSpec).at F).post enc Try.prog Try.f5 false true false false) := by
  obtain ⟨places, hx⟩ := reads os enc
  refine returnsInHanded_of_row (C := Try.checked) (s := (OpenSpec.ofChange Rows.budgetHoldsSpec)) own started (by kernel_rfl) Try.func5
    (witness_row_at (enc := enc) (C := Try.checked) false (laidWorld os) noArgs rfl (by kernel_rfl) (by kernel_rfl) (by kernel_rfl)
      (OpenSpec.preRow_of_cond 8 hx (by kernel_rfl) (fun k hk => by cases hk) (by kernel_rfl) (laid_met os))) ?_
  intro W base args ds gs before hval hW _ hcond _ hL hsh _
  exact contract H enc W base args ds gs before hval hW hsh

theorem said : Rows.BudgetHoldsSaid :=
  OpenClaim.holds_of_cond 5 Try.f5 rfl rfl rfl rfl rfl rfl rfl ⟨rfl, rfl, rfl, rfl, rfl⟩ rfl rfl rfl rfl rfl (by kernel_rfl) Try.func5 (by kernel_rfl)
    (of_decide_eq_true (by kernel_rfl)) (by unfold Func.isWrapper; first | (rw [if_pos (by decide +kernel)]; kernel_rfl) | (rw [if_neg (by decide +kernel)]; exact ⟨rfl, rfl⟩))
    (fun os started H enc _ F => by rw [OpenClaim.pre_eq_preRow]; exact lifted os started H enc F)
end Go.Proofs.Ytalilffocbkfnaa.fnBudgetHolds
namespace Go.Proofs.Ytalilffocbkfnaa
/-- The given statement. -/
theorem budgetHoldsHolds : Rows.BudgetHoldsSaid := fnBudgetHolds.said
end Go.Proofs.Ytalilffocbkfnaa
