/-
  BudgetTextsSaid: any budget as a text, and back, and what any text is, are what the document says, for every input. No condition.
-/
import Derived.Test.YtalilffocbkfnaaRows
import Derived.Test.YtalilffocbkfnaaGrBudgetTexts16
import Derived.Test.YtalilffocbkfnaaGrBudgetTexts9
import Derived.WalkKit
import Derived.ProofKit
import Derived.OpenShut
import Derived.Deep.DeepHandedRow
import Derived.Lib.LaidTab
set_option linter.unusedSimpArgs false
set_option linter.unusedVariables false
namespace Go.Proofs.Ytalilffocbkfnaa.fnBudgetTexts
open Go.ChangeShapes Go.WideShapes Go.ChangeAt Go.RowKit Go.Am Go.Am.Seat
set_option maxRecDepth 100000

theorem own : ownKnob Try.prog.godebug = none := by kernel_rfl
theorem laidOut : laidOutB Try.prog = true := by kernel_rfl

theorem start_mem {W : World} (hs : W.ShapedOpen Try.prog) : MR Try.prog (ren0 Try.prog mem0) mem0 W ∧ NoRow mem0 := by
  refine ⟨mr_tabs (Nat.le_of_ble_eq_true (by kernel_rfl)) (by exact Nat.zero_le _) ?_, ?_⟩
  · intro k b hb
    have h := (List.all_eq_true.1 (show mem0.all (fun | .dead => true | _ => false) = true by kernel_rfl)) b (List.mem_of_getElem? hb)
    cases b with
    | dead => trivial
    | row _ _ _ => cases h
    | tab _ _ => cases h
  · intro k e cs hb
    have h := (List.all_eq_true.1 (show mem0.all (fun | .dead => true | _ => false) = true by kernel_rfl)) _ (List.mem_of_getElem? hb)
    cases h

theorem params_ok : ∀ t ∈ Try.f4.params.toList, Try.prog.readableRec t = true ∧ t < Try.prog.types.size := by
  intro t ht
  have h := (List.all_eq_true.1 (show Try.f4.params.toList.all (fun t => Try.prog.readableRec t && decide (t < Try.prog.types.size)) = true by kernel_rfl)) t ht
  simpa using h


theorem contract (H : Type) (enc : TypeId × Value → H) (W : World) (base : Nat) (args : Array Value) (ds gs : List (DataW H)) (before : List MemPlace)
    (hval : ∀ (j : Nat) t v, Try.f4.params[j]? = some t → args[j]? = some v → Value.okWide Try.prog W .any base t v)
    (hW : DataW.Whole enc Try.prog Try.f4.params.toList Rows.budgetTextsSpec.vars false W args.toList ds gs before) (hsh : W.ShapedOpen Try.prog) :
    Calls Try.prog 4 args W fun e W' => ∃ v, e = .returned v ∧ Rows.budgetTextsSpec.post enc Try.prog Try.f4 false true false false W args v W' := by
  have hW' := hW
  obtain ⟨p, q, hA0, hV, hbef, hfz, hnd⟩ := hW
  have hA : DataW.TrodAll enc Try.prog W 0 (fun _ => true) true Try.f4.params.toList args.toList ds p := hA0
  rw [show Try.f4.params = #[26, 9] from rfl] at hA hval
  obtain ⟨v0, vs0, d0, ds0, p0, q0, hargs0, rfl, hp0, h0, r0⟩ := trodAll_cons hA
  obtain ⟨v1, vs1, d1, ds1, p1, q1, hargs1, rfl, hp1, h1, r1⟩ := trodAll_cons r0
  obtain ⟨hn1, rfl, hn3⟩ := trodAll_nil r1
  obtain rfl : args = #[v0, v1] := by cases args; simp_all
  obtain ⟨rfl, rfl⟩ := trodVars_none hV
  clear hA0
  obtain ⟨M0, n0⟩ := start_mem hsh
  have hbk : BulkOK (H := H) Go.Am.bulk0 := bulk0_ok
  have sm : ∀ d : DataW H, Small bulk0 maxLen d := fun d => .inl (Nat.le_refl _)
  obtain ⟨cs0, rfl, k0, _⟩ := open_agg (ks := [.int .i64, .int .u64, .bool]) hbk (sm d0) (by kernel_rfl) (by kernel_rfl) (hval 0 26 v0 rfl rfl) h0
  obtain ⟨k1, _⟩ := open_cell (k := .str) hbk (sm d1) (by kernel_rfl) (hval 1 9 v1 rfl rfl) h1
  obtain ⟨mZ, hrun⟩ := lawBT k0 k1
  have hr := (runQ_sound envOK (fun _ h => by cases h) 2001).1 4 [.agg ⟨cs0⟩, v1] mem0 (.bool true) mZ hrun (ren0 Try.prog mem0) W #[.agg ⟨cs0⟩, v1] M0 ⟨rfl, fun i x y hx hy => by
    match i, hx, hy with
    | 0, hx, hy => cases hx; cases hy; exact .lit k0.lit
    | 1, hx, hy => cases hx; cases hy; exact .lit (lit2_of_lit1 (lit1_of_lit0 (CK.is_lit (N := maxLen) (k := .str) k1)))
    | i + 2, hx, hy => simp at hx⟩
  refine hr.mono fun e W' he => ?_
  obtain ⟨he, hb⟩ := below_of_ends n0 rfl he
  subst he
  exact ⟨_, rfl, post_true laidOut hW' rfl params_ok (tb := 4) rfl Try.underlying4 ⟨rfl, rfl, rfl⟩ hb⟩

/-- A world for the witness. -/
noncomputable def laidWorld (os : Os) : World := World.holding Try.prog os ⟨#[], #[], []⟩
def noArgs : Array Value := #[.agg #[.int .i64 0, .int .u64 0, .bool false], .string ⟨#[]⟩]
theorem laid_met (os : Os) : laidMet Try.prog Rows.budgetTextsRow.laid ((laidWorld os).forCall (fun _ _ => 0) ⟨#[], noArgs, []⟩).memory :=
  laidMet_of_run' 8 (by kernel_rfl) (by kernel_rfl)
theorem reads (os : Os) {H : Type} (enc : TypeId × Value → H) : ∃ places, DataW.whole enc Try.prog ((laidWorld os).forCall (fun _ _ => 0) ⟨#[], noArgs, []⟩).memory Try.f4.params.toList Rows.budgetTextsSpec.vars false noArgs.toList 8 = some ([.agg [.lit (.int .i64 0), .lit (.int .u64 0), .lit (.bool false)], .lit (.string [])], [], places) :=
  ⟨[], by kernel_rfl⟩

theorem lifted (os : Os) (started : os.Started) (H : Type) (enc : TypeId × Value → H) (F : Stop.Interp) :
    ReturnsInHanded {} Try.checked os 4 .any ((OpenSpec.ofChange Rows.budgetTextsSpec).preRow enc Try.prog Try.f4 Rows.budgetTextsRow.domain false Rows.budgetTextsRow.laid) (((OpenSpec.ofChange Rows.budgetTextsSpec).at F).post enc Try.prog Try.f4 false true false false) := by
  obtain ⟨places, hx⟩ := reads os enc
  refine returnsInHanded_of_row (C := Try.checked) (s := (OpenSpec.ofChange Rows.budgetTextsSpec)) own started (by kernel_rfl) Try.func4
    (witness_row_at (enc := enc) (C := Try.checked) false (laidWorld os) noArgs rfl (by kernel_rfl) (by kernel_rfl) (by kernel_rfl)
      (OpenSpec.preRow_of_cond 8 hx (by kernel_rfl) (fun k hk => by cases hk) (by kernel_rfl) (laid_met os))) ?_
  intro W base args ds gs before hval hW _ hcond _ hL hsh _
  exact contract H enc W base args ds gs before hval hW hsh

theorem said : Rows.BudgetTextsSaid :=
  OpenClaim.holds_of_cond 4 Try.f4 rfl rfl rfl rfl rfl rfl rfl ⟨rfl, rfl, rfl, rfl, rfl⟩ rfl rfl rfl rfl rfl (by kernel_rfl) Try.func4 (by kernel_rfl)
    (of_decide_eq_true (by kernel_rfl)) (by unfold Func.isWrapper; first | (rw [if_pos (by decide +kernel)]; kernel_rfl) | (rw [if_neg (by decide +kernel)]; exact ⟨rfl, rfl⟩))
    (fun os started H enc _ F => by rw [OpenClaim.pre_eq_preRow]; exact lifted os started H enc F)
end Go.Proofs.Ytalilffocbkfnaa.fnBudgetTexts
namespace Go.Proofs.Ytalilffocbkfnaa
/-- The given statement. -/
theorem budgetTextsHolds : Rows.BudgetTextsSaid := fnBudgetTexts.said
end Go.Proofs.Ytalilffocbkfnaa
