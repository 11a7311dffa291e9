/-
  WireWritesSaid: the bytes of any second message and of any record, or why there are none, are what the document says, for every input. No condition.
-/
import Derived.Test.YtmllcnlfocbdjaaRows
import Derived.Test.YtmllcnlfocbdjaaGrWireWrites22
import Derived.Test.YtmllcnlfocbdjaaGrWireWrites15
import Derived.WalkKit
import Derived.ProofKit
import Derived.OpenShut
import Derived.Deep.DeepHandedRow
import Derived.Lib.LaidTab
set_option linter.unusedSimpArgs false
set_option linter.unusedVariables false
namespace Go.Proofs.Ytmllcnlfocbdjaa.fnWireWrites
open Go.ChangeShapes Go.WideShapes Go.ChangeAt Go.RowKit Go.Am Go.Am.Seat
set_option maxRecDepth 100000

theorem own : ownKnob Try.prog.godebug = none := by kernel_rfl
theorem laidOut : laidOutB Try.prog = true := by kernel_rfl

theorem start_mem {W : World} (hs : W.ShapedOpen Try.prog) : MR Try.prog (ren0 Try.prog mem0) mem0 W ∧ NoRow mem0 := by
  refine ⟨mr_tabs (Nat.le_of_ble_eq_true (by kernel_rfl)) (by obtain ⟨t, ht⟩ := Option.isSome_iff_exists.1 (show ((Try.prog.globals[0]?).map (·.type)).isSome = true by kernel_rfl); obtain ⟨c, h⟩ := shaped_at (g := 0) hs (Nat.lt_of_lt_of_le (Nat.lt_succ_self _) (Nat.le_of_ble_eq_true (by kernel_rfl))) ht; exact (Array.getElem?_eq_some_iff.1 h).1) ?_, ?_⟩
  · intro k b hb
    have h := (List.all_eq_true.1 (show mem0.all (fun | .dead => true | _ => false) = true by kernel_rfl)) b (List.mem_of_getElem? hb)
    cases b with
    | dead => trivial
    | row _ _ _ => cases h
    | tab _ _ => cases h
  · intro k e cs hb
    have h := (List.all_eq_true.1 (show mem0.all (fun | .dead => true | _ => false) = true by kernel_rfl)) _ (List.mem_of_getElem? hb)
    cases h

theorem params_ok : ∀ t ∈ Try.f5.params.toList, Try.prog.readableRec t = true ∧ t < Try.prog.types.size := by
  intro t ht
  have h := (List.all_eq_true.1 (show Try.f5.params.toList.all (fun t => Try.prog.readableRec t && decide (t < Try.prog.types.size)) = true by kernel_rfl)) t ht
  simpa using h


theorem contract (H : Type) (enc : TypeId × Value → H) (W : World) (base : Nat) (args : Array Value) (ds gs : List (DataW H)) (before : List MemPlace)
    (hval : ∀ (j : Nat) t v, Try.f5.params[j]? = some t → args[j]? = some v → Value.okWide Try.prog W .any base t v)
    (hW : DataW.Whole enc Try.prog Try.f5.params.toList Rows.wireWritesSpec.vars false W args.toList ds gs before) (hsh : W.ShapedOpen Try.prog) :
    Calls Try.prog 5 args W fun e W' => ∃ v, e = .returned v ∧ Rows.wireWritesSpec.post enc Try.prog Try.f5 false true false false W args v W' := by
  have hW' := hW
  obtain ⟨p, q, hA0, hV, hbef, hfz, hnd⟩ := hW
  have hA : DataW.TrodAll enc Try.prog W 0 (fun _ => true) true Try.f5.params.toList args.toList ds p := hA0
  rw [show Try.f5.params = #[42, 44] from rfl] at hA hval
  obtain ⟨v0, vs0, d0, ds0, p0, q0, hargs0, rfl, hp0, h0, r0⟩ := trodAll_cons hA
  obtain ⟨v1, vs1, d1, ds1, p1, q1, hargs1, rfl, hp1, h1, r1⟩ := trodAll_cons r0
  obtain ⟨hn1, rfl, hn3⟩ := trodAll_nil r1
  obtain rfl : args = #[v0, v1] := by cases args; simp_all
  obtain ⟨rfl, rfl⟩ := trodVars_none hV
  clear hA0
  obtain ⟨M0, n0⟩ := start_mem hsh
  have hbk : BulkOK (H := H) Go.Am.bulk0 := bulk0_ok
  have sm : ∀ d : DataW H, Small bulk0 maxLen d := fun d => .inl (Nat.le_refl _)
  obtain ⟨cs0, rfl, k0, _⟩ := open_agg (ks := [.str, .str, .str, .str, .str, .str]) hbk (sm d0) (by kernel_rfl) (by kernel_rfl) (hval 0 42 v0 rfl rfl) h0
  obtain ⟨cs1, rfl, k1, _⟩ := open_agg (ks := [.str, .str, .str]) hbk (sm d1) (by kernel_rfl) (by kernel_rfl) (hval 1 44 v1 rfl rfl) h1
  obtain ⟨m1, hrun⟩ := (lawWW wire11) k0 k1
  have hr := (runQ_sound envOK (fun _ h => by cases h) 2001).1 5 [.agg ⟨cs0⟩, .agg ⟨cs1⟩] mem0 (.bool true) m1 hrun (ren0 Try.prog mem0) W #[.agg ⟨cs0⟩, .agg ⟨cs1⟩] M0 ⟨rfl, fun i x y hx hy => by
    match i, hx, hy with
    | 0, hx, hy => cases hx; cases hy; exact .lit k0.lit
    | 1, hx, hy => cases hx; cases hy; exact .lit k1.lit
    | i + 2, hx, hy => simp at hx⟩
  refine hr.mono fun e W' he => ?_
  obtain ⟨he, hb⟩ := below_of_ends n0 rfl he
  subst he
  exact ⟨_, rfl, post_true laidOut hW' rfl params_ok (tb := 4) rfl Try.underlying4 ⟨rfl, rfl, rfl⟩ hb⟩

/-- A world for the witness. -/
noncomputable def laidWorld (os : Os) : World := World.holding Try.prog os ⟨#[], #[], []⟩
def noArgs : Array Value := #[.agg #[.string ⟨#[]⟩, .string ⟨#[]⟩, .string ⟨#[]⟩, .string ⟨#[]⟩, .string ⟨#[]⟩, .string ⟨#[]⟩], .agg #[.string ⟨#[]⟩, .string ⟨#[]⟩, .string ⟨#[]⟩]]
theorem laid_met (os : Os) : laidMet Try.prog Rows.wireWritesRow.laid ((laidWorld os).forCall (fun _ _ => 0) ⟨#[], noArgs, []⟩).memory :=
  laidMet_of_run' 8 (by kernel_rfl) (by kernel_rfl)
theorem reads (os : Os) {H : Type} (enc : TypeId × Value → H) : ∃ places, DataW.whole enc Try.prog ((laidWorld os).forCall (fun _ _ => 0) ⟨#[], noArgs, []⟩).memory Try.f5.params.toList Rows.wireWritesSpec.vars false noArgs.toList 8 = some ([.agg [.lit (.string []), .lit (.string []), .lit (.string []), .lit (.string []), .lit (.string []), .lit (.string [])], .agg [.lit (.string []), .lit (.string []), .lit (.string [])]], [], places) :=
  ⟨[], by kernel_rfl⟩

theorem lifted (os : Os) (started : os.Started) (H : Type) (enc : TypeId × Value → H) (F : Stop.Interp) :
    ReturnsInHanded {} Try.checked os 5 .any ((OpenSpec.ofChange Rows.wireWritesSpec).preRow enc Try.prog Try.f5 Rows.wireWritesRow.domain false Rows.wireWritesRow.laid) (((OpenSpec.ofChange Rows.wireWritesSpec).at F).post enc Try.prog Try.f5 false true false false) := by
  obtain ⟨places, hx⟩ := reads os enc
  refine returnsInHanded_of_row (C := Try.checked) (s := (OpenSpec.ofChange Rows.wireWritesSpec)) own started (by kernel_rfl) Try.func5
    (witness_row_at (enc := enc) (C := Try.checked) false (laidWorld os) noArgs rfl (by kernel_rfl) (by kernel_rfl) (by kernel_rfl)
      (OpenSpec.preRow_of_cond 8 hx (by kernel_rfl) (fun k hk => by cases hk) (by kernel_rfl) (laid_met os))) ?_
  intro W base args ds gs before hval hW _ hcond _ hL hsh _
  exact contract H enc W base args ds gs before hval hW hsh

theorem said : Rows.WireWritesSaid :=
  OpenClaim.holds_of_cond 5 Try.f5 rfl rfl rfl rfl rfl rfl rfl ⟨rfl, rfl, rfl, rfl, rfl⟩ rfl rfl rfl rfl rfl (by kernel_rfl) Try.func5 (by kernel_rfl)
    (of_decide_eq_true (by kernel_rfl)) (by unfold Func.isWrapper; first | (rw [if_pos (by decide +kernel)]; kernel_rfl) | (rw [if_neg (by decide +kernel)]; exact ⟨rfl, rfl⟩))
    (fun os started H enc _ F => by rw [OpenClaim.pre_eq_preRow]; exact lifted os started H enc F)
end Go.Proofs.Ytmllcnlfocbdjaa.fnWireWrites
namespace Go.Proofs.Ytmllcnlfocbdjaa
/-- The given statement. -/
theorem wireWritesHolds : Rows.WireWritesSaid := fnWireWrites.said
end Go.Proofs.Ytmllcnlfocbdjaa
